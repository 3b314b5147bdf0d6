/- The specification's l10Fits, by its contract. -/
import Derived.Test.YtjelmbkngjlefaaIFrom
namespace Go.Proofs.Ytjelmbkngjlefaa
open Go.RowKit
set_option linter.unusedSimpArgs false

set_option maxRecDepth 20000 in
set_option maxHeartbeats 6400000 in
theorem sVFits (va : Value) (x y : Int) (base : Nat) (w : World) (ha : ownsV w base va (mkW x, mkW y)) :
    Calls Try.prog 17 #[va] w fun e w' => ∃ v, e = .returned (.tuple #[v, .bool (fitV x y).2]) ∧ ownsV w' (min base w.heap.size) v (fitV x y).1 ∧ Below w.heap.size w w' := by
  have HF : Hid (fitV x y = if (limbs x.natAbs).length ≤ 48 ∧ (limbs y.natAbs).length ≤ 48 then ((mkW x, mkW y), true) else (((false, []), (false, [])), false)) := by
    show _ = _
    unfold fitV fitW
    by_cases h1 : (limbs x.natAbs).length ≤ 48 <;> by_cases h2 : (limbs y.natAbs).length ≤ 48 <;> simp [h1, h2]
  obtain ⟨fv, hfv⟩ : ∃ f, fitV x y = f := ⟨_, rfl⟩
  rw [hfv] at HF
  rw [hfv]
  clear hfv
  obtain ⟨s, t, rfl, hs, ht, hap⟩ := ha
  have hs' : ownsI w base s (mkW x).2 := hs
  have ht' : ownsI w base t (mkW y).2 := ht
  obtain ⟨ad, cap, rfl, -⟩ := id hs'.row
  obtain ⟨ae, cbp, rfl, -⟩ := id ht'.row
  have ex : (mkW x).2.length = (limbs x.natAbs).length := rfl
  have ey : (mkW y).2.length = (limbs y.natAbs).length := rfl
  rw [← ex, ← ey] at HF
  obtain ⟨⟨g, lx⟩, hmx⟩ : ∃ m, mkW x = m := ⟨_, rfl⟩
  obtain ⟨⟨g', ly⟩, hmy⟩ : ∃ m, mkW y = m := ⟨_, rfl⟩
  rw [hmx, hmy] at HF
  rw [hmx] at hs' hs hap ⊢
  rw [hmy] at ht' ht hap ⊢
  clear hmx hmy ex ey hs ht
  simp only at HF hs' ht' hap ⊢
  obtain ⟨len, hlen⟩ : ∃ l, lx.length = l := ⟨_, rfl⟩
  obtain ⟨len2, hlen2⟩ : ∃ l, ly.length = l := ⟨_, rfl⟩
  rw [hlen, hlen2] at HF hap
  rw [hlen] at hs' ⊢
  rw [hlen2] at ht' ⊢
  have s1 : (w.alloc (.cells #[.bool g, .slice ad len cap, .bool g', .slice ae len2 cbp] 30)).heap.size = w.heap.size + 1 := by simp
  have X0 := (BoxV.made w (.bool g) (.slice ad len cap) (.bool g') (.slice ae len2 cbp) 30).below (below1 _ (.cells #[.bool false, .slice none 0 0, .bool false, .slice none 0 0] 30)) (Nat.le_refl _)
  have R0 := BoxV.made (w.alloc (.cells #[.bool g, .slice ad len cap, .bool g', .slice ae len2 cbp] 30)) (.bool false) (.slice none 0 0) (.bool false) (.slice none 0 0) 30
  rw [s1] at R0
  have B0 := below2 w (.cells #[.bool g, .slice ad len cap, .bool g', .slice ae len2 cbp] 30) (.cells #[.bool false, .slice none 0 0, .bool false, .slice none 0 0] 30)
  clear s1
  have hlt := hs'.ltb
  have hlu := ht'.ltb
  have q1 := ownsI.below hs' B0 (Nat.le_refl _)
  have q2 := ownsI.below ht' B0 (Nat.le_refl _)
  have r0 := R0.c0
  have f0 := R0.f0
  have r1 := R0.c1
  have f1 := R0.f1
  have r2 := R0.c2
  have f2 := R0.f2
  have r3 := R0.c3
  have f3 := R0.f3
  by_cases hok : len ≤ 48 ∧ len2 ≤ 48
  · have e1 : decide ((48 : Int) < (len : Int)) = false := decide_eq_false (by omega)
    have e2 : decide ((48 : Int) < (len2 : Int)) = false := decide_eq_false (by omega)
    have e3 : ¬ ((48 : Int) < (len : Int)) := by omega
    have e4 : ¬ ((48 : Int) < (len2 : Int)) := by omega
    have HV : Hid (fv = (((g, lx), (g', ly)), true)) := by show _ = _; rw [HF.out, if_pos hok]
    have B9 := below2 w (.cells #[.bool g, .slice ad len cap, .bool g', .slice ae len2 cbp] 30) (.cells #[.bool g, .slice ad len cap, .bool g', .slice ae len2 cbp] 30)
    have HT : Hid (ownsI ((w.alloc (.cells #[.bool g, .slice ad len cap, .bool g', .slice ae len2 cbp] 30)).alloc (.cells #[.bool g, .slice ad len cap, .bool g', .slice ae len2 cbp] 30)) base (.slice ad len cap) lx ∧ ownsI ((w.alloc (.cells #[.bool g, .slice ad len cap, .bool g', .slice ae len2 cbp] 30)).alloc (.cells #[.bool g, .slice ad len cap, .bool g', .slice ae len2 cbp] 30)) base (.slice ae len2 cbp) ly) := ⟨ownsI.below hs' B9 (Nat.le_refl _), ownsI.below ht' B9 (Nat.le_refl _)⟩
    have HB : Hid (Below w.heap.size w _) := B9
    have HP : Hid (Apart (blkI (.slice ad len cap)) (blkI (.slice ae len2 cbp)) ∧ lx.length = len ∧ ly.length = len2) := ⟨hap, hlen, hlen2⟩
    have HM : Hid (min base w.heap.size ≤ base) := Nat.min_le_left _ _
    clear hs' ht' q1 q2 hlt hlu hap HF hok R0 B0 X0 hlen hlen2 B9
    go_enter Try.func17, Try.ntmps17
    go_wp2
    (try simp only [Exit.inBlock, Exit.then])
    refine bodyPost_ret (v := .tuple #[.agg #[.bool g, .slice ad len cap, .bool g', .slice ae len2 cbp], .bool true]) ?_ rfl ⟨_, by rw [HV.out], by rw [HV.out]; exact ⟨_, _, rfl, ownsI_mono HT.out.1 HM.out, ownsI_mono HT.out.2 HM.out, HP.out.1⟩, HB.out⟩
    rw [results_cell_tmp rfl]
    go_simp
  · have HV : Hid (fv = (((false, []), (false, [])), false)) := by show _ = _; rw [HF.out, if_neg hok]
    clear hs' ht' q1 q2 hlt hlu hap HF
    by_cases h1 : len ≤ 48
    · have e1 : decide ((48 : Int) < (len : Int)) = false := decide_eq_false (by omega)
      have e2 : decide ((48 : Int) < (len2 : Int)) = true := decide_eq_true (by omega)
      have e3 : ¬ ((48 : Int) < (len : Int)) := by omega
      have e4 : (48 : Int) < (len2 : Int) := by omega
      clear hok R0 X0 hlen hlen2
      go_enter Try.func17, Try.ntmps17
      go_wp2
      (try simp only [Exit.inBlock, Exit.then])
      refine bodyPost_ret (v := .tuple #[.agg #[.bool false, .slice none 0 0, .bool false, .slice none 0 0], .bool false]) ?_ rfl ⟨_, by rw [HV.out], by rw [HV.out]; exact nilV _ _, B0⟩
      rw [results_cell_tmp rfl]
      go_simp
    · have e1 : decide ((48 : Int) < (len : Int)) = true := decide_eq_true (by omega)
      have e3 : (48 : Int) < (len : Int) := by omega
      clear hok R0 X0 hlen hlen2
      go_enter Try.func17, Try.ntmps17
      go_wp2
      (try simp only [Exit.inBlock, Exit.then])
      refine bodyPost_ret (v := .tuple #[.agg #[.bool false, .slice none 0 0, .bool false, .slice none 0 0], .bool false]) ?_ rfl ⟨_, by rw [HV.out], by rw [HV.out]; exact nilV _ _, B0⟩
      rw [results_cell_tmp rfl]
      go_simp


end Go.Proofs.Ytjelmbkngjlefaa
