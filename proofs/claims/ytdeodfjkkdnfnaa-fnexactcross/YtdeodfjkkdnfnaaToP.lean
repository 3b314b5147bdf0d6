/- The law's own toSpin, by its contract. -/
import Derived.Test.YtdeodfjkkdnfnaaP0
namespace Go.Proofs.Ytdeodfjkkdnfnaa
open Go.RowKit
set_option linter.unusedSimpArgs false

set_option maxRecDepth 20000 in
set_option maxHeartbeats 6400000 in
theorem toP (g0 : Bool) (a0 : Option Addr) (n0 c0 : Nat) (zs0 : List Int) (g1 : Bool) (a1 : Option Addr) (n1 c1 : Nat) (zs1 : List Int) (kk : Int) (w : World) (h0 : n0 ≤ 1048576) (h1 : n1 ≤ 1048576) (hr0 : IsRow .i64 w a0 n0 c0 zs0) (hr1 : IsRow .i64 w a1 n1 c1 zs1) :
    Calls Try.prog 10 #[.agg #[.bool g0, .slice a0 n0 c0, .bool g1, .slice a1 n1 c1, .int .i64 kk]] w fun e w' => ∃ v, e = .returned v ∧ ownsP w' w.heap.size v (((g0, zs0.take n0), (g1, zs1.take n1)), kk) ∧ Below w.heap.size w w' := by
  have T0 := fun W (h : Below w.heap.size w W) => toW g0 a0 n0 c0 zs0 W h0 (hr0.below h)
  have T1 := fun W (h : Below w.heap.size w W) => toW g1 a1 n1 c1 zs1 W h1 (hr1.below h)
  obtain ⟨xs0, hx0⟩ : ∃ xs, zs0.take n0 = xs := ⟨_, rfl⟩
  obtain ⟨xs1, hx1⟩ : ∃ xs, zs1.take n1 = xs := ⟨_, rfl⟩
  rw [hx0] at T0
  rw [hx1] at T1
  rw [hx0, hx1]
  clear hx0 hx1 hr0 hr1
  have s1 : (w.alloc (.cells #[.bool g0, .slice a0 n0 c0, .bool g1, .slice a1 n1 c1, .int .i64 kk] 26)).heap.size = w.heap.size + 1 := by simp
  have s2 : ((w.alloc (.cells #[.bool g0, .slice a0 n0 c0, .bool g1, .slice a1 n1 c1, .int .i64 kk] 26)).alloc (.cells #[.bool false, .slice none 0 0, .bool false, .slice none 0 0, .int .i64 0] 31)).heap.size = w.heap.size + 1 + 1 := by simp
  have X := ((Bx5.made w (.bool g0) (.slice a0 n0 c0) (.bool g1) (.slice a1 n1 c1) (.int .i64 kk) 26).below (below1 _ (.cells #[.bool false, .slice none 0 0, .bool false, .slice none 0 0, .int .i64 0] 31)) (Nat.le_refl _)).below (below1 _ (.cells #[.bool false, .slice none 0 0, .bool false, .slice none 0 0, .int .i64 0] 31)) (Nat.le_refl _)
  have R := (Bx5.made (w.alloc (.cells #[.bool g0, .slice a0 n0 c0, .bool g1, .slice a1 n1 c1, .int .i64 kk] 26)) (.bool false) (.slice none 0 0) (.bool false) (.slice none 0 0) (.int .i64 0) 31).below (below1 _ (.cells #[.bool false, .slice none 0 0, .bool false, .slice none 0 0, .int .i64 0] 31)) (Nat.le_refl _)
  have V := Bx5.made ((w.alloc (.cells #[.bool g0, .slice a0 n0 c0, .bool g1, .slice a1 n1 c1, .int .i64 kk] 26)).alloc (.cells #[.bool false, .slice none 0 0, .bool false, .slice none 0 0, .int .i64 0] 31)) (.bool false) (.slice none 0 0) (.bool false) (.slice none 0 0) (.int .i64 0) 31
  have B := below3 w (.cells #[.bool g0, .slice a0 n0 c0, .bool g1, .slice a1 n1 c1, .int .i64 kk] 26) (.cells #[.bool false, .slice none 0 0, .bool false, .slice none 0 0, .int .i64 0] 31) (.cells #[.bool false, .slice none 0 0, .bool false, .slice none 0 0, .int .i64 0] 31)
  rw [s1] at R
  rw [s2] at V
  clear s1 s2
  go_enter Try.func10, Try.ntmps10
  go_wp2_with fail
  refine (T0 _ B).mono ?_
  generalize ((w.alloc (.cells #[.bool g0, .slice a0 n0 c0, .bool g1, .slice a1 n1 c1, .int .i64 kk] 26)).alloc (.cells #[.bool false, .slice none 0 0, .bool false, .slice none 0 0, .int .i64 0] 31)).alloc (.cells #[.bool false, .slice none 0 0, .bool false, .slice none 0 0, .int .i64 0] 31) = w0 at *
  rintro e w1 ⟨v1, rfl, o1, b1⟩
  have hV0 := V.hi
  have X1 := X.below b1 (Nat.le_refl _)
  have R1 := R.below b1 (Nat.le_refl _)
  have V1 := V.below b1 (Nat.le_refl _)
  have B1 := B.trans (b1.mono B.size)
  obtain ⟨s1, rfl, q1⟩ := o1
  obtain ⟨ad1, cp1, rfl, -⟩ := q1.row
  have q1' : ownsI w1 w0.heap.size (.slice ad1 xs0.length cp1) xs0 := q1
  have hx1 : ¬ (w.heap.size + 1 + 1 = w.heap.size) := by omega
  have hx2 : ¬ (w.heap.size = w.heap.size + 1 + 1) := by omega
  have hx3 : ¬ (w.heap.size + 1 + 1 = w.heap.size + 1) := by omega
  have hx4 : ¬ (w.heap.size + 1 = w.heap.size + 1 + 1) := by omega
  have hx5 : ¬ (w.heap.size + 1 = w.heap.size) := by omega
  have hx6 : ¬ (w.heap.size = w.heap.size + 1) := by omega
  have e0 := V1.c0
  have e1 := V1.c1
  have e4 := V1.f0
  have e5 := V1.f1
  have X2 := ((X1.other (w.heap.size + 1 + 1) 0 (by omega) (.bool g0)).other (w.heap.size + 1 + 1) 1 (by omega) (.slice ad1 xs0.length cp1))
  have R2 := ((R1.other (w.heap.size + 1 + 1) 0 (by omega) (.bool g0)).other (w.heap.size + 1 + 1) 1 (by omega) (.slice ad1 xs0.length cp1))
  have V2 := ((V1.set0 (.bool g0)).set1 (.slice ad1 xs0.length cp1))
  have B2 := ((B1.setCell (p := ⟨w.heap.size + 1 + 1, 0, none⟩) (by show w.heap.size ≤ w.heap.size + 1 + 1; omega) (.bool g0)).setCell (p := ⟨w.heap.size + 1 + 1, 1, none⟩) (by show w.heap.size ≤ w.heap.size + 1 + 1; omega) (.slice ad1 xs0.length cp1))
  have q2 := ((q1'.other (w.heap.size + 1 + 1) 0 (by omega) (.bool g0)).other (w.heap.size + 1 + 1) 1 (by omega) (.slice ad1 xs0.length cp1))
  have x2 := X2.c2
  have x3 := X2.c3
  clear X R V B X1 R1 V1 b1 q1 q1' B1 T0
  go_wp2_with fail
  clear x2 x3 e0 e1 e4 e5
  refine (T1 _ B2).mono ?_
  generalize (w1.setCell ⟨w.heap.size + 1 + 1, 0, none⟩ (.bool g0)).setCell ⟨w.heap.size + 1 + 1, 1, none⟩ (.slice ad1 xs0.length cp1) = w2 at *
  rintro e w3 ⟨v3, rfl, o3, b3⟩
  have X3 := X2.below b3 (Nat.le_refl _)
  have R3 := R2.below b3 (Nat.le_refl _)
  have V3 := V2.below b3 (Nat.le_refl _)
  have B3 := B2.trans (b3.mono B2.size)
  have q3 := ownsI.below q2 b3 (Nat.le_refl _)
  obtain ⟨s3, rfl, z3⟩ := o3
  obtain ⟨ad3, cp3, rfl, -⟩ := z3.row
  have z3' : ownsI w3 w2.heap.size (.slice ad3 xs1.length cp3) xs1 := z3
  have hV2 := V2.hi
  have hap : Apart (blkI (.slice ad1 xs0.length cp1)) (blkI (.slice ad3 xs1.length cp3)) := apart_of (fun k hk => (q2.ltb k hk).2) (fun k hk => (z3'.ltb k hk).1)
  have y4 := X3.c4
  have e0 := V3.c0
  have d0 := V3.f0
  have r0 := R3.c0
  have t0 := R3.f0
  have e1 := V3.c1
  have d1 := V3.f1
  have r1 := R3.c1
  have t1 := R3.f1
  have e2 := V3.c2
  have d2 := V3.f2
  have r2 := R3.c2
  have t2 := R3.f2
  have e3 := V3.c3
  have d3 := V3.f3
  have r3 := R3.c3
  have t3 := R3.f3
  have e4 := V3.c4
  have d4 := V3.f4
  have r4 := R3.c4
  have t4 := R3.f4
  have HQ : Hid (ownsI _ w0.heap.size (.slice ad1 xs0.length cp1) xs0) := ((((((((q3.other (w.heap.size + 1 + 1) 2 (by omega) (.bool g1)).other (w.heap.size + 1 + 1) 3 (by omega) (.slice ad3 xs1.length cp3)).other (w.heap.size + 1 + 1) 4 (by omega) (.int .i64 kk)).other (w.heap.size + 1) 0 (by omega) (.bool g0)).other (w.heap.size + 1) 1 (by omega) (.slice ad1 xs0.length cp1)).other (w.heap.size + 1) 2 (by omega) (.bool g1)).other (w.heap.size + 1) 3 (by omega) (.slice ad3 xs1.length cp3)).other (w.heap.size + 1) 4 (by omega) (.int .i64 kk))
  have HZ : Hid (ownsI _ w2.heap.size (.slice ad3 xs1.length cp3) xs1) := ((((((((z3'.other (w.heap.size + 1 + 1) 2 (by omega) (.bool g1)).other (w.heap.size + 1 + 1) 3 (by omega) (.slice ad3 xs1.length cp3)).other (w.heap.size + 1 + 1) 4 (by omega) (.int .i64 kk)).other (w.heap.size + 1) 0 (by omega) (.bool g0)).other (w.heap.size + 1) 1 (by omega) (.slice ad1 xs0.length cp1)).other (w.heap.size + 1) 2 (by omega) (.bool g1)).other (w.heap.size + 1) 3 (by omega) (.slice ad3 xs1.length cp3)).other (w.heap.size + 1) 4 (by omega) (.int .i64 kk))
  have HB : Hid (Below w.heap.size w _) := ((((((((B3.setCell (p := ⟨w.heap.size + 1 + 1, 2, none⟩) (by show w.heap.size ≤ w.heap.size + 1 + 1; omega) (.bool g1)).setCell (p := ⟨w.heap.size + 1 + 1, 3, none⟩) (by show w.heap.size ≤ w.heap.size + 1 + 1; omega) (.slice ad3 xs1.length cp3)).setCell (p := ⟨w.heap.size + 1 + 1, 4, none⟩) (by show w.heap.size ≤ w.heap.size + 1 + 1; omega) (.int .i64 kk)).setCell (p := ⟨w.heap.size + 1, 0, none⟩) (by show w.heap.size ≤ w.heap.size + 1; omega) (.bool g0)).setCell (p := ⟨w.heap.size + 1, 1, none⟩) (by show w.heap.size ≤ w.heap.size + 1; omega) (.slice ad1 xs0.length cp1)).setCell (p := ⟨w.heap.size + 1, 2, none⟩) (by show w.heap.size ≤ w.heap.size + 1; omega) (.bool g1)).setCell (p := ⟨w.heap.size + 1, 3, none⟩) (by show w.heap.size ≤ w.heap.size + 1; omega) (.slice ad3 xs1.length cp3)).setCell (p := ⟨w.heap.size + 1, 4, none⟩) (by show w.heap.size ≤ w.heap.size + 1; omega) (.int .i64 kk))
  have HP : Hid (Apart (blkI (.slice ad1 xs0.length cp1)) (blkI (.slice ad3 xs1.length cp3))) := hap
  have hb0 : w.heap.size ≤ w0.heap.size := by omega
  have hb2 := B2.size
  clear X2 X3 V2 V3 R2 R3 q2 q3 z3 z3' B2 B3 b3 hap T1
  go_wp2
  (try simp only [Exit.inBlock, Exit.then])
  refine bodyPost_ret (v := .agg #[.bool g0, .slice ad1 xs0.length cp1, .bool g1, .slice ad3 xs1.length cp3, .int .i64 kk]) ?_ rfl ⟨_, rfl, ⟨_, _, rfl, ownsI_mono HQ.out hb0, ownsI_mono HZ.out hb2, HP.out⟩, HB.out⟩
  rw [results_cell1 rfl]
  go_simp

end Go.Proofs.Ytdeodfjkkdnfnaa
