/- IvWidth of the program and of the specification, each by its contract. -/
import Derived.Test.YtmbmnfphgcjhdaaSIvOk
import Derived.Test.YtmbmnfphgcjhdaaVTop
import Derived.Test.YtmbmnfphgcjhdaaGTop
import Derived.Test.YtmbmnfphgcjhdaaWTop
namespace Go.Proofs.Ytmbmnfphgcjhdaa
open Go.RowKit
set_option linter.unusedSimpArgs false

def widthR (a : Vh) : Wh := if okV a = true then mkW (valW a.2 - valW a.1) else (false, [])
theorem diff_len {x y : Int} (hx : (limbs x.natAbs).length ≤ 48) (hy : (limbs y.natAbs).length ≤ 48) : (limbs (y - x).natAbs).length ≤ 49 := by
  have h1 := limbs_lt x.natAbs
  have h2 := limbs_lt y.natAbs
  have e1 : (16777216 : Nat) ^ (limbs x.natAbs).length ≤ 16777216 ^ 48 := Nat.pow_le_pow_right (by omega) hx
  have e2 : (16777216 : Nat) ^ (limbs y.natAbs).length ≤ 16777216 ^ 48 := Nat.pow_le_pow_right (by omega) hy
  refine limbs_len_le _ 49 ?_
  rw [Nat.pow_succ]
  generalize (16777216 : Nat) ^ 48 = P at *
  omega
theorem widthR_len (a : Vh) : (widthR a).2.length ≤ 1048576 := by
  unfold widthR
  split
  · rename_i h
    have z := okV_yes h
    have := diff_len (okW_lenV z.1) (okW_lenV z.2.1)
    show (limbs (valW a.2 - valW a.1).natAbs).length ≤ 1048576
    omega
  · simp

set_option maxRecDepth 20000 in
set_option maxHeartbeats 3200000 in
theorem sIvWidth (va : Value) (a : Vh) (w : World) (ha : rowV w va a) (hl0 : a.1.2.length ≤ 1048576) (hl1 : a.2.2.length ≤ 1048576) :
    Calls Try.prog 66 #[va] w fun e w' => ∃ v, e = .returned v ∧ ownsW w' w.heap.size v (widthR a) ∧ Below w.heap.size w w' := by
  have kA := fun W (h : Below w.heap.size w W) => sIvOk va a W (ha.below h (Nat.le_refl _)) hl0 hl1
  have HN : Hid (okV a = false → widthR a = (false, [])) := fun h => by unfold widthR; rw [if_neg (by rw [h]; simp)]
  have HY : Hid (okV a = true → widthR a = mkW (valW a.2 - valW a.1)) := fun h => by unfold widthR; rw [if_pos h]
  obtain ⟨s, t, rfl, hs, ht⟩ := ha
  have kS : okV a = true → ∀ W, Below w.heap.size w W → Calls Try.prog 87 #[.agg #[.bool a.2.1, t], .agg #[.bool a.1.1, s]] W fun e w' => ∃ v, e = .returned v ∧ ownsW w' W.heap.size v (mkW (valW a.2 - valW a.1)) ∧ Below W.heap.size W w' := by
    intro h1 W h
    have z := okV_yes h1
    have l1 := okW_lenV z.1
    have l2 := okW_lenV z.2.1
    exact sWSub _ _ (valW a.2) (valW a.1) W (by rw [← mkW_of z.2.1]; exact ⟨_, rfl, ht.below h (Nat.le_refl _)⟩) (by rw [← mkW_of z.1]; exact ⟨_, rfl, hs.below h (Nat.le_refl _)⟩) (by omega) (by omega)
  obtain ⟨ad, cap, rfl, -⟩ := id hs
  obtain ⟨ae, cbp, rfl, -⟩ := id ht
  clear hs ht hl0 hl1
  generalize widthR a = rw' at *
  generalize okV a = ov at *
  have s1 : (w.alloc (.cells #[.bool a.1.1, .slice ad a.1.2.length cap, .bool a.2.1, .slice ae a.2.2.length cbp] 28)).heap.size = w.heap.size + 1 := by simp
  have X0 := (BoxV.made w (.bool a.1.1) (.slice ad a.1.2.length cap) (.bool a.2.1) (.slice ae a.2.2.length cbp) 28).below (below1 _ (.cells #[.bool false, .slice none 0 0] 26)) (Nat.le_refl _)
  have R0 := BoxW.made (w.alloc (.cells #[.bool a.1.1, .slice ad a.1.2.length cap, .bool a.2.1, .slice ae a.2.2.length cbp] 28)) (.bool false) (.slice none 0 0) 26
  rw [s1] at R0
  have B0 := below2 w (.cells #[.bool a.1.1, .slice ad a.1.2.length cap, .bool a.2.1, .slice ae a.2.2.length cbp] 28) (.cells #[.bool false, .slice none 0 0] 26)
  clear s1
  cases ov
  · obtain rfl := (HN.out rfl).symm
    clear HN HY kS
    go_enter Try.func66, Try.ntmps66
    go_wp2_with fail
    refine (kA _ B0).mono ?_
    generalize (w.alloc (.cells #[.bool a.1.1, .slice ad a.1.2.length cap, .bool a.2.1, .slice ae a.2.2.length cbp] 28)).alloc (.cells #[.bool false, .slice none 0 0] 26) = w0 at *
    rintro e w1 ⟨rfl, b1⟩
    have R1 := R0.below b1 (Nat.le_refl _)
    have B1 := B0.trans (b1.mono B0.size)
    have r0 := R1.c0
    have r1 := R1.c1
    have f0 := R1.f0
    have f1 := R1.f1
    have HB : Hid (Below w.heap.size w _) := (B1.setCell (p := ⟨w.heap.size + 1, 0, none⟩) (by show w.heap.size ≤ w.heap.size + 1; omega) (.bool false)).setCell (p := ⟨w.heap.size + 1, 1, none⟩) (by show w.heap.size ≤ w.heap.size + 1; omega) (.slice none 0 0)
    clear R0 R1 B0 B1 b1 kA X0
    go_wp2
    (try simp only [Exit.inBlock, Exit.then])
    refine bodyPost_ret (v := .agg #[.bool false, .slice none 0 0]) ?_ rfl ⟨_, rfl, ⟨_, rfl, World.ownsRow_nil _ _ _ _⟩, HB.out⟩
    rw [results_cell1 rfl]
    go_simp
  · have hw := HY.out rfl
    have kD := kS rfl
    rw [← hw] at kD
    obtain ⟨nr, lr⟩ := rw'
    clear HN HY hw kS
    go_enter Try.func66, Try.ntmps66
    go_wp2_with fail
    refine (kA _ B0).mono ?_
    generalize (w.alloc (.cells #[.bool a.1.1, .slice ad a.1.2.length cap, .bool a.2.1, .slice ae a.2.2.length cbp] 28)).alloc (.cells #[.bool false, .slice none 0 0] 26) = w0 at *
    rintro e w1 ⟨rfl, b1⟩
    have X1 := X0.below b1 (Nat.le_refl _)
    have R1 := R0.below b1 (Nat.le_refl _)
    have B1 := B0.trans (b1.mono B0.size)
    have x0 := X1.c0
    have x1 := X1.c1
    have x2 := X1.c2
    have x3 := X1.c3
    clear X0 R0 B0 b1 kA
    go_wp2_with fail
    clear x0 x1 x2 x3
    refine (kD _ B1).mono ?_
    rintro e w3 ⟨v3, rfl, o3, b3⟩
    have R3 := R1.below b3 (Nat.le_refl _)
    have B3 := B1.trans (b3.mono B1.size)
    obtain ⟨s3, rfl, q3⟩ := o3
    obtain ⟨ad3, cp3, rfl, -⟩ := q3.row
    have hR := R1.hi
    have r0 := R3.c0
    have r1 := R3.c1
    have f0 := R3.f0
    have f1 := R3.f1
    have o6 := ownsRow_setCell_below (a := ⟨w.heap.size + 1, 0, none⟩) q3 (by exact hR) (.bool nr)
    have o7 := ownsRow_setCell_below (a := ⟨w.heap.size + 1, 1, none⟩) o6 (by exact hR) (.slice ad3 lr.length cp3)
    have HO : Hid (World.ownsRow _ w.heap.size 3 1 (.slice ad3 lr.length cp3) lr.length (lr.map (Value.int .i64))) := ownsRow_mono o7 B1.size
    have HB : Hid (Below w.heap.size w _) := (B3.setCell (p := ⟨w.heap.size + 1, 0, none⟩) (by show w.heap.size ≤ w.heap.size + 1; omega) (.bool nr)).setCell (p := ⟨w.heap.size + 1, 1, none⟩) (by show w.heap.size ≤ w.heap.size + 1; omega) (.slice ad3 lr.length cp3)
    clear q3 o6 o7 R1 R3 B1 B3 b3 kD X1
    go_wp2
    (try simp only [Exit.inBlock, Exit.then])
    refine bodyPost_ret (v := .agg #[.bool nr, .slice ad3 lr.length cp3]) ?_ rfl ⟨_, rfl, ⟨_, rfl, HO.out⟩, HB.out⟩
    rw [results_cell1 rfl]
    go_simp

end Go.Proofs.Ytmbmnfphgcjhdaa
