/- The program's signedOf and WholeOf, each by its contract. -/
import Derived.Test.YtlpfjpbnedankaaSWhole
namespace Go.Proofs.Ytlpfjpbnedankaa
open Go.RowKit

set_option maxRecDepth 20000 in
set_option maxHeartbeats 1600000 in
theorem sOf (n : Int) (w : World) (h0 : -9223372036854775808 ≤ n) (h1 : n ≤ 9223372036854775807) :
    Calls Try.prog 31 #[.int .i64 n] w fun e w' => ∃ b, e = .returned (.pointer (some ⟨b, 0, none⟩)) ∧ w.heap.size ≤ b ∧ SG w' b n ∧ Below w.heap.size w w' := by
  by_cases hn : n < 0
  · obtain ⟨m, rfl⟩ : ∃ m : Nat, n = -(m : Int) := ⟨n.natAbs, by omega⟩
    have hm0 : 0 < m := by omega
    have hm : m ≤ 9223372036854775808 := by omega
    have l3 := limbs_len3 (n := m) (by omega)
    have kG := fun W => gOf m W (by omega)
    have kN := fun W => newSigned_c true m W (by omega)
    have q : decide (-(m : Int) < 0) = true := decide_eq_true hn
    have w1 : IntKind.u64.wrap (-(m : Int)) = 18446744073709551616 - (m : Int) := by rw [IntKind.wrap_u64]; omega
    have w2 : IntKind.u64.wrap (-(18446744073709551616 - (m : Int))) = (m : Int) := by rw [IntKind.wrap_u64]; omega
    clear hn
    go_enter Try.func31, Try.ntmps31
    go_wp2_with fail
    refine (kG _).mono ?_
    rintro e w3 ⟨rfl, b1⟩
    go_wp2_with fail
    refine (kN _).mono ?_
    rintro e w4 ⟨b, rfl, hb, sb, b2⟩
    have HS : Hid (SG w4 b (-(m : Int))) := by show SG w4 b (-(m : Int)); simpa using sb
    clear sb
    go_wp2
    go_ret
    exact ⟨b, rfl, Nat.le_trans b1.size hb, HS.out, b1.trans (b2.mono b1.size)⟩
  · obtain ⟨m, rfl⟩ : ∃ m : Nat, n = (m : Int) := ⟨n.toNat, by omega⟩
    have hm : m ≤ 9223372036854775807 := by omega
    have l3 := limbs_len3 (n := m) (by omega)
    have kG := fun W => gOf m W (by omega)
    have kN := fun W => newSigned_c false m W (by omega)
    go_enter Try.func31, Try.ntmps31
    go_wp2_with fail
    refine (kG _).mono ?_
    rintro e w1 ⟨rfl, b1⟩
    go_wp2_with fail
    refine (kN _).mono ?_
    rintro e w2 ⟨b, rfl, hb, sb, b2⟩
    have HS : Hid (SG w2 b (m : Int)) := by show SG w2 b (m : Int); simpa using sb
    clear sb
    go_wp2
    go_ret
    exact ⟨b, rfl, Nat.le_trans b1.size hb, HS.out, b1.trans (b2.mono b1.size)⟩

theorem wofR_len (n : Int) (h : -9223372036854775808 ≤ n ∧ n ≤ 9223372036854775807) : (wofR n).2.length ≤ 1048576 := by
  have := limbs_len3 (n := n.natAbs) (by omega)
  show (limbs n.natAbs).length ≤ 1048576
  omega

set_option maxRecDepth 20000 in
set_option maxHeartbeats 1600000 in
theorem iWholeOf (n : Int) (w : World) (h0 : -9223372036854775808 ≤ n) (h1 : n ≤ 9223372036854775807) :
    Calls Try.prog 12 #[.int .i64 n] w fun e w' => ∃ v, e = .returned v ∧ ownsW w' w.heap.size v (wofR n) ∧ Below w.heap.size w w' := by
  have HR : Hid (wofR n = (fitW n).1) := by
    show _ = _
    have := limbs_len3 (n := n.natAbs) (by omega)
    unfold wofR fitW
    rw [if_pos (by omega)]
  have kO := fun W => sOf n W h0 h1
  have kW := fun b W h => sWhole b n W h
  obtain ⟨r, hr⟩ : ∃ r, wofR n = r := ⟨_, rfl⟩
  rw [hr] at HR ⊢
  clear hr
  generalize fitW n = fw at *
  have B0 := below1 w (.cells #[.bool false, .slice none 0 0] 27)
  have R0 := BoxW.made w (.bool false) (.slice none 0 0) 27
  clear h0 h1
  go_enter Try.func12, Try.ntmps12
  go_wp2_with fail
  refine (kO _).mono ?_
  generalize w.alloc (.cells #[.bool false, .slice none 0 0] 27) = w0 at *
  rintro e w2 ⟨c, rfl, hc, sc, b2⟩
  have R2 := R0.below b2 (Nat.le_refl _)
  have B2 := B0.trans (b2.mono B0.size)
  go_wp2_with fail
  refine (kW c w2 sc).mono ?_
  rintro e w3 ⟨v3, rfl, o3, b3⟩
  have R3 := R2.below b3 (Nat.le_refl _)
  have B3 := B2.trans (b3.mono B2.size)
  obtain ⟨⟨g3, l3⟩, ok3⟩ := fw
  obtain ⟨s3, rfl, q3⟩ := o3
  obtain ⟨ad3, cap3, rfl, -⟩ := q3.row
  have hb2 := B2.size
  have hR := R2.hi
  have Y4 := below1 w3 (.cells #[.bool g3, .slice ad3 l3.length cap3] 27)
  have R4 := R3.below Y4 (Nat.le_refl _)
  have B4 := B3.trans (Y4.mono B3.size)
  have O4 := World.ownsRow.alloc q3 (.cells #[.bool g3, .slice ad3 l3.length cap3] 27)
  have HO : Hid ((w3.alloc (.cells #[.bool g3, .slice ad3 l3.length cap3] 27)).ownsRow w2.heap.size 3 1 (.slice ad3 l3.length cap3) l3.length (l3.map (Value.int .i64))) := O4
  have d0 := R4.c0
  have d1 := R4.c1
  have f0 := R4.f0
  have f1 := R4.f1
  have hne : ¬ (w3.heap.size = w.heap.size) := by have := b3.size; omega
  have hne2 : ¬ (w.heap.size = w3.heap.size) := by have := b3.size; omega
  clear R0 R2 R3 R4 B0 b2 b3 kO kW sc q3 O4 Y4
  go_wp2
  (try simp only [Exit.inBlock, Exit.then])
  refine bodyPost_ret (v := .agg #[.bool g3, .slice ad3 l3.length cap3]) ?_ rfl ⟨_, rfl, ?_, ?_⟩
  · rw [results_cell1 rfl]
    go_simp
  · rw [HR.out]
    refine ⟨_, rfl, ?_⟩
    have o2 := ownsRow_setCell_below (a := ⟨w.heap.size, 0, none⟩) HO.out (by exact hR) (.bool g3)
    have o3 := ownsRow_setCell_below (a := ⟨w.heap.size, 1, none⟩) o2 (by exact hR) (.slice ad3 l3.length cap3)
    exact ownsRow_mono o3 hb2
  · exact (B4.setCell (p := ⟨w.heap.size, 0, none⟩) (Nat.le_refl _) _).setCell (p := ⟨w.heap.size, 1, none⟩) (Nat.le_refl _) _

end Go.Proofs.Ytlpfjpbnedankaa
