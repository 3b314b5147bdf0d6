/- The specification's l4Ceil and l10Move, each by its contract. -/
import Derived.Test.YtjelmbkngjlefaaSVFits
import Derived.Test.YtjelmbkngjlefaaSIvOk
import Derived.Test.YtjelmbkngjlefaaWB
import Derived.Test.YtjelmbkngjlefaaGB
namespace Go.Proofs.Ytjelmbkngjlefaa
open Go.RowKit
set_option linter.unusedSimpArgs false

theorem ceil_len (x : Int) (k : Nat) : (limbs (-x / 2 ^ k).natAbs).length ≤ (limbs x.natAbs).length + 1 := by
  have hp : (0 : Int) < 2 ^ k := Int.pow_pos (by omega)
  have hp1 : (1 : Int) ≤ 2 ^ k := hp
  have h : (-x / 2 ^ k).natAbs ≤ x.natAbs + 1 := by
    have a1 : -x / 2 ^ k ≤ x.natAbs := by
      rcases Int.le_total 0 (-x) with hx | hx
      · exact Int.le_trans (Int.ediv_le_self _ hx) (by omega)
      · exact Int.le_trans (Int.ediv_nonpos_of_nonpos_of_neg hx hp) (by omega)
    have a2 : -(x.natAbs : Int) - 1 ≤ -x / 2 ^ k := by
      rw [Int.le_ediv_iff_mul_le hp]
      have : (-(x.natAbs : Int) - 1) * 2 ^ k ≤ (-(x.natAbs : Int) - 1) * 1 := Int.mul_le_mul_of_nonpos_left (by omega) hp1
      omega
    omega
  refine limbs_len_le _ _ ?_
  have h2 := limbs_lt x.natAbs
  rw [Nat.pow_succ]
  generalize 16777216 ^ (limbs x.natAbs).length = Q at *
  omega

set_option maxRecDepth 20000 in
set_option maxHeartbeats 3200000 in
theorem sWCeil (va : Value) (x : Int) (k : Nat) (w : World) (ha : rowW w va (mkW x)) (hlx : (limbs x.natAbs).length ≤ 10000) (hk : k ≤ 100000) :
    Calls Try.prog 38 #[va, .int .i64 k] w fun e w' => ∃ v, e = .returned v ∧ ownsW w' w.heap.size v (mkW (-(-x / 2 ^ k))) ∧ Below w.heap.size w w' := by
  have kA := fun W (h : Below w.heap.size w W) => sWNeg va x W (ha.below h (Nat.le_refl _)) (by omega)
  have kB := fun va W h => sWFloor va (-x) k W h (by rw [Int.natAbs_neg]; exact hlx) hk
  have hc := ceil_len x k
  have kC := fun va W h => sWNeg va (-x / 2 ^ k) W h (by omega)
  generalize mkW (-(-x / 2 ^ k)) = m at *
  obtain ⟨n1, l1⟩ := m
  obtain ⟨s, rfl, hs⟩ := ha
  obtain ⟨ad, cap, rfl, -⟩ := id hs
  obtain ⟨g, hg⟩ : ∃ g, (mkW x).1 = g := ⟨_, rfl⟩
  obtain ⟨len, hlen⟩ : ∃ l, (mkW x).2.length = l := ⟨_, rfl⟩
  rw [hg, hlen] at kA
  rw [hg, hlen]
  clear hs hg hlen hc hlx hk
  have s1 : (w.alloc (.cells #[.bool g, .slice ad len cap] 28)).heap.size = w.heap.size + 1 := by simp
  have R0 := BoxW.made (w.alloc (.cells #[.bool g, .slice ad len cap] 28)) (.bool false) (.slice none 0 0) 28
  rw [s1] at R0
  have B0 := below2 w (.cells #[.bool g, .slice ad len cap] 28) (.cells #[.bool false, .slice none 0 0] 28)
  clear s1
  go_enter Try.func38, Try.ntmps38
  go_wp2_with fail
  refine (kA _ B0).mono ?_
  generalize (w.alloc (.cells #[.bool g, .slice ad len cap] 28)).alloc (.cells #[.bool false, .slice none 0 0] 28) = w0 at *
  rintro e w1 ⟨v1, rfl, o1, b1⟩
  have R1 := R0.below b1 (Nat.le_refl _)
  have B1 := B0.trans (b1.mono B0.size)
  have q1 := o1.row
  clear R0 B0 b1 o1 kA
  go_wp2_with fail
  refine (kB v1 _ q1).mono ?_
  rintro e w2 ⟨v2, rfl, o2, b2⟩
  have R2 := R1.below b2 (Nat.le_refl _)
  have B2 := B1.trans (b2.mono B1.size)
  have q2 := o2.row
  clear R1 B1 b2 o2 kB q1
  go_wp2_with fail
  refine (kC v2 _ q2).mono ?_
  rintro e w3 ⟨v3, rfl, o3, b3⟩
  have R3 := R2.below b3 (Nat.le_refl _)
  have B3 := B2.trans (b3.mono B2.size)
  obtain ⟨s3, rfl, q3⟩ := o3
  obtain ⟨ad3, cp3, rfl, -⟩ := q3.row
  have q3' : ownsI w3 w2.heap.size (.slice ad3 l1.length cp3) l1 := q3
  have hR := R2.hi
  have r0 := R3.c0
  have r1 := R3.c1
  have f0 := R3.f0
  have f1 := R3.f1
  have HO : Hid (ownsI _ w2.heap.size (.slice ad3 l1.length cp3) l1) := ((q3'.other (w.heap.size + 1) 0 (by omega) (.bool n1)).other (w.heap.size + 1) 1 (by omega) (.slice ad3 l1.length cp3))
  have HB : Hid (Below w.heap.size w _) := (B3.setCell (p := ⟨w.heap.size + 1, 0, none⟩) (by show w.heap.size ≤ w.heap.size + 1; omega) (.bool n1)).setCell (p := ⟨w.heap.size + 1, 1, none⟩) (by show w.heap.size ≤ w.heap.size + 1; omega) (.slice ad3 l1.length cp3)
  have hb2 := B2.size
  clear q2 q3 q3' R2 R3 B2 B3 b3 kC
  go_wp2
  (try simp only [Exit.inBlock, Exit.then])
  refine bodyPost_ret (v := .agg #[.bool n1, .slice ad3 l1.length cp3]) ?_ rfl ⟨_, rfl, ⟨_, rfl, ownsI_mono HO.out hb2⟩, HB.out⟩
  rw [results_cell1 rfl]
  go_simp

end Go.Proofs.Ytjelmbkngjlefaa
