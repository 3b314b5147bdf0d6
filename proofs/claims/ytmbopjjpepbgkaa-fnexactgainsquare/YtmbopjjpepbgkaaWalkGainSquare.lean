/- The law FnExactGainSquare: its walk, out of the two contracts (written by genlaw.py from the signature II>VB). -/
import Derived.Test.YtmbopjjpepbgkaaBase
import Derived.Test.YtmbopjjpepbgkaaVB
import Derived.Deep.RegionHeld
import Derived.Test.YtmbopjjpepbgkaaGsqI
namespace Go.Proofs.Ytmbopjjpepbgkaa
open Go.RowKit

set_option maxHeartbeats 3200000 in
theorem walkGainSquare_in (k0 : Int) (k1 : Int) (w : World)  (hk0 : -9223372036854775808 ≤ k0 ∧ k0 ≤ 9223372036854775807) (hk1 : -9223372036854775808 ≤ k1 ∧ k1 ≤ 9223372036854775807) (hR : (gsR k0 k1).1.1.2.length ≤ 1048576 ∧ (gsR k0 k1).1.2.2.length ≤ 1048576)
    (hS : ∀ (k0 : Int) (k1 : Int) (W : World), -9223372036854775808 ≤ k0 → k0 ≤ 9223372036854775807 → -9223372036854775808 ≤ k1 → k1 ≤ 9223372036854775807 → Calls Try.prog 6 #[.int .i64 k0, .int .i64 k1] W (fun e w' => ∃ v0, e = .returned (.tuple #[v0, .bool (gsR k0 k1).2]) ∧ ownsV w' W.heap.size v0 (gsR k0 k1).1 ∧ Below W.heap.size W w'))
    (hI : ∀ (k0 : Int) (k1 : Int) (W : World), -9223372036854775808 ≤ k0 → k0 ≤ 9223372036854775807 → -9223372036854775808 ≤ k1 → k1 ≤ 9223372036854775807 → Calls Try.prog 7 #[.int .i64 k0, .int .i64 k1] W (fun e w' => ∃ v0, e = .returned (.tuple #[v0, .bool (gsR k0 k1).2]) ∧ ownsV w' W.heap.size v0 (gsR k0 k1).1 ∧ Below W.heap.size W w')) :
    Calls Try.prog 3 #[.int .i64 k0, .int .i64 k1] w fun e w' => e = .returned (.bool true) ∧ Below w.heap.size w w' := by
  have S := fun W => hS k0 k1 W hk0.1 hk0.2 hk1.1 hk1.2
  have I := fun W => hI k0 k1 W hk0.1 hk0.2 hk1.1 hk1.2
  obtain ⟨r0, r1, hr⟩ : ∃ r0 r1, gsR k0 k1 = (r0, r1) := ⟨_, _, rfl⟩
  simp only [hr] at S I hR
  clear hS hI hr
  have eb1 : (r1 != r1) = false := by simp
  have B := Below.refl w.heap.size w
  go_enter Try.func3, Try.ntmps3
  -- the specification's answer
  go_wp2_with fail
  refine (S w).mono ?_
  rintro e w1 ⟨vw0, rfl, ow0, bw1⟩
  have mw0 : ∀ k ∈ blkV vw0, w.heap.size ≤ k := fun k hk => Nat.le_trans B.size (ow0.ltb k hk).1
  obtain ⟨sw0, tw0, rfl, hqw0, hpw0, -⟩ := id ow0
  obtain ⟨adw0, cpw0, rfl, -⟩ := hqw0.row
  obtain ⟨aew0, cqw0, rfl, -⟩ := hpw0.row
  clear hqw0 hpw0
  have B := B.trans (bw1.mono B.size)
  clear bw1
  -- the arguments, copied; the program's answer
  go_wp2_with fail
  have hsw2 : (w1.alloc (.cells #[.bool r0.1.1, .slice adw0 r0.1.2.length cpw0, .bool r0.2.1, .slice aew0 r0.2.2.length cqw0] 26)).heap.size = w1.heap.size + 1 := by simp
  have bB := below1 w1 (.cells #[.bool r0.1.1, .slice adw0 r0.1.2.length cpw0, .bool r0.2.1, .slice aew0 r0.2.2.length cqw0] 26)
  have obw0 := BoxV.made w1 (.bool r0.1.1) (.slice adw0 r0.1.2.length cpw0) (.bool r0.2.1) (.slice aew0 r0.2.2.length cqw0) 26
  have dw0_bw0 := apart_of (fun k hk => (ow0.ltb k hk).2) (fun k hk => (obw0.ltb k hk).1)
  have ow0 := ow0.below bB (Nat.le_refl _)
  have B := B.trans (bB.mono B.size)
  clear bB
  generalize w1.alloc (.cells #[.bool r0.1.1, .slice adw0 r0.1.2.length cpw0, .bool r0.2.1, .slice aew0 r0.2.2.length cqw0] 26) = w2 at *
  refine (I w2).mono ?_
  rintro e w3 ⟨vg0, rfl, og0, bw3⟩
  have dw0_g0 := apart_of (fun k hk => (ow0.ltb k hk).2) (fun k hk => (og0.ltb k hk).1)
  have dbw0_g0 := apart_of (fun k hk => (obw0.ltb k hk).2) (fun k hk => (og0.ltb k hk).1)
  have mg0 : ∀ k ∈ blkV vg0, w.heap.size ≤ k := fun k hk => Nat.le_trans B.size (og0.ltb k hk).1
  obtain ⟨sg0, tg0, rfl, hqg0, hpg0, -⟩ := id og0
  obtain ⟨adg0, cpg0, rfl, -⟩ := hqg0.row
  obtain ⟨aeg0, cqg0, rfl, -⟩ := hpg0.row
  clear hqg0 hpg0
  have ow0 := ow0.below bw3 (Nat.le_refl _)
  have obw0 := obw0.below bw3 (Nat.le_refl _)
  have B := B.trans (bw3.mono B.size)
  clear bw3
  have cbw00 := obw0.c0
  have cbw01 := obw0.c1
  have cbw02 := obw0.c2
  have cbw03 := obw0.c3
  have hbw0 := obw0.hi
  have ebw0 := obw0.below (below1 w3 (.cells #[.bool r0.1.1, .slice adg0 r0.1.2.length cpg0, .bool r0.2.1, .slice aeg0 r0.2.2.length cqg0] 26)) (Nat.le_refl _)
  have ebw00 := ebw0.c0
  have ebw01 := ebw0.c1
  have ebw02 := ebw0.c2
  have ebw03 := ebw0.c3
  go_wp2_with fail
  clear cbw00 cbw01 cbw02 cbw03 hbw0
  clear ebw0 ebw00 ebw01 ebw02 ebw03
  have hsw4 : (w3.alloc (.cells #[.bool r0.1.1, .slice adg0 r0.1.2.length cpg0, .bool r0.2.1, .slice aeg0 r0.2.2.length cqg0] 26)).heap.size = w3.heap.size + 1 := by simp
  have bB := below1 w3 (.cells #[.bool r0.1.1, .slice adg0 r0.1.2.length cpg0, .bool r0.2.1, .slice aeg0 r0.2.2.length cqg0] 26)
  have obg0 := BoxV.made w3 (.bool r0.1.1) (.slice adg0 r0.1.2.length cpg0) (.bool r0.2.1) (.slice aeg0 r0.2.2.length cqg0) 26
  have dw0_bg0 := apart_of (fun k hk => (ow0.ltb k hk).2) (fun k hk => (obg0.ltb k hk).1)
  have dbw0_bg0 := apart_of (fun k hk => (obw0.ltb k hk).2) (fun k hk => (obg0.ltb k hk).1)
  have dg0_bg0 := apart_of (fun k hk => (og0.ltb k hk).2) (fun k hk => (obg0.ltb k hk).1)
  have ow0 := ow0.below bB (Nat.le_refl _)
  have obw0 := obw0.below bB (Nat.le_refl _)
  have og0 := og0.below bB (Nat.le_refl _)
  have B := B.trans (bB.mono B.size)
  clear bB
  generalize w3.alloc (.cells #[.bool r0.1.1, .slice adg0 r0.1.2.length cpg0, .bool r0.2.1, .slice aeg0 r0.2.2.length cqg0] 26) = w4 at *
  refine (eqV' _ _ _ _ _ w4 (by omega) og0 ow0).mono ?_
  rintro e w5 ⟨rfl, bw5⟩
  have ow0 := ow0.below bw5 (Nat.le_refl _)
  have obw0 := obw0.below bw5 (Nat.le_refl _)
  have og0 := og0.below bw5 (Nat.le_refl _)
  have obg0 := obg0.below bw5 (Nat.le_refl _)
  have B := B.trans (bw5.mono B.size)
  clear bw5
  -- the copies are as they were
  -- the answer's own memory
  have cbw00 := obw0.c0
  have cbw01 := obw0.c1
  have cbw02 := obw0.c2
  have cbw03 := obw0.c3
  have hbw0 := obw0.hi
  have cbg00 := obg0.c0
  have cbg01 := obg0.c1
  have cbg02 := obg0.c2
  have cbg03 := obg0.c3
  have hbg0 := obg0.hi
  go_wp2_with fail
  clear cbw00 cbw01 cbw02 cbw03 hbw0
  clear cbg00 cbg01 cbg02 cbg03 hbg0
  refine (markV _ _ r0 (1) w5 (by omega) (by omega) (by omega) (by omega) (by omega) og0).mono ?_
  rintro e w6 ⟨rfl, oM, gw6⟩
  have ow0 := ow0.tn gw6 dw0_g0
  have obw0 := obw0.tn gw6 dbw0_g0
  have obg0 := obg0.tn gw6 dg0_bg0.symm
  have B := gw6.below B B.size mg0
  clear gw6
  have og0 := oM
  clear oM
  have cbw00 := obw0.c0
  have cbw01 := obw0.c1
  have cbw02 := obw0.c2
  have cbw03 := obw0.c3
  have hbw0 := obw0.hi
  have cbg00 := obg0.c0
  have cbg01 := obg0.c1
  have cbg02 := obg0.c2
  have cbg03 := obg0.c3
  have hbg0 := obg0.hi
  go_wp2_with fail
  clear cbw00 cbw01 cbw02 cbw03 hbw0
  clear cbg00 cbg01 cbg02 cbg03 hbg0
  refine (heldV _ _ r0.1.1 r0.2.1 (1) r0.1.2.length r0.2.2.length w6 (by omega) (by omega) (by omega) (by omega) og0).mono ?_
  rintro e w7 ⟨rfl, bw7⟩
  have ow0 := ow0.below bw7 (Nat.le_refl _)
  have obw0 := obw0.below bw7 (Nat.le_refl _)
  have og0 := og0.below bw7 (Nat.le_refl _)
  have obg0 := obg0.below bw7 (Nat.le_refl _)
  have B := B.trans (bw7.mono B.size)
  clear bw7
  have cbw00 := obw0.c0
  have cbw01 := obw0.c1
  have cbw02 := obw0.c2
  have cbw03 := obw0.c3
  have hbw0 := obw0.hi
  have cbg00 := obg0.c0
  have cbg01 := obg0.c1
  have cbg02 := obg0.c2
  have cbg03 := obg0.c3
  have hbg0 := obg0.hi
  go_wp2_with fail
  clear cbw00 cbw01 cbw02 cbw03 hbw0
  clear cbg00 cbg01 cbg02 cbg03 hbg0
  refine (I w7).mono ?_
  rintro e w8 ⟨vh0, rfl, oh0, bw8⟩
  obtain ⟨sh0, th0, rfl, hqh0, hph0, -⟩ := id oh0
  obtain ⟨adh0, cph0, rfl, -⟩ := hqh0.row
  obtain ⟨aeh0, cqh0, rfl, -⟩ := hph0.row
  clear hqh0 hph0
  have ow0 := ow0.below bw8 (Nat.le_refl _)
  have obw0 := obw0.below bw8 (Nat.le_refl _)
  have og0 := og0.below bw8 (Nat.le_refl _)
  have obg0 := obg0.below bw8 (Nat.le_refl _)
  have B := B.trans (bw8.mono B.size)
  clear bw8
  have cbw00 := obw0.c0
  have cbw01 := obw0.c1
  have cbw02 := obw0.c2
  have cbw03 := obw0.c3
  have hbw0 := obw0.hi
  have cbg00 := obg0.c0
  have cbg01 := obg0.c1
  have cbg02 := obg0.c2
  have cbg03 := obg0.c3
  have hbg0 := obg0.hi
  have ebw0 := obw0.below (below1 w8 (.cells #[.bool r0.1.1, .slice adh0 r0.1.2.length cph0, .bool r0.2.1, .slice aeh0 r0.2.2.length cqh0] 26)) (Nat.le_refl _)
  have ebw00 := ebw0.c0
  have ebw01 := ebw0.c1
  have ebw02 := ebw0.c2
  have ebw03 := ebw0.c3
  have ebg0 := obg0.below (below1 w8 (.cells #[.bool r0.1.1, .slice adh0 r0.1.2.length cph0, .bool r0.2.1, .slice aeh0 r0.2.2.length cqh0] 26)) (Nat.le_refl _)
  have ebg00 := ebg0.c0
  have ebg01 := ebg0.c1
  have ebg02 := ebg0.c2
  have ebg03 := ebg0.c3
  go_wp2_with fail
  clear cbw00 cbw01 cbw02 cbw03 hbw0
  clear cbg00 cbg01 cbg02 cbg03 hbg0
  clear ebw0 ebw00 ebw01 ebw02 ebw03
  clear ebg0 ebg00 ebg01 ebg02 ebg03
  have hsw9 : (w8.alloc (.cells #[.bool r0.1.1, .slice adh0 r0.1.2.length cph0, .bool r0.2.1, .slice aeh0 r0.2.2.length cqh0] 26)).heap.size = w8.heap.size + 1 := by simp
  have bB := below1 w8 (.cells #[.bool r0.1.1, .slice adh0 r0.1.2.length cph0, .bool r0.2.1, .slice aeh0 r0.2.2.length cqh0] 26)
  have obh0 := BoxV.made w8 (.bool r0.1.1) (.slice adh0 r0.1.2.length cph0) (.bool r0.2.1) (.slice aeh0 r0.2.2.length cqh0) 26
  have dw0_bh0 := apart_of (fun k hk => (ow0.ltb k hk).2) (fun k hk => (obh0.ltb k hk).1)
  have dbw0_bh0 := apart_of (fun k hk => (obw0.ltb k hk).2) (fun k hk => (obh0.ltb k hk).1)
  have dg0_bh0 := apart_of (fun k hk => (og0.ltb k hk).2) (fun k hk => (obh0.ltb k hk).1)
  have dbg0_bh0 := apart_of (fun k hk => (obg0.ltb k hk).2) (fun k hk => (obh0.ltb k hk).1)
  have dh0_bh0 := apart_of (fun k hk => (oh0.ltb k hk).2) (fun k hk => (obh0.ltb k hk).1)
  have ow0 := ow0.below bB (Nat.le_refl _)
  have obw0 := obw0.below bB (Nat.le_refl _)
  have og0 := og0.below bB (Nat.le_refl _)
  have obg0 := obg0.below bB (Nat.le_refl _)
  have oh0 := oh0.below bB (Nat.le_refl _)
  have B := B.trans (bB.mono B.size)
  clear bB
  generalize w8.alloc (.cells #[.bool r0.1.1, .slice adh0 r0.1.2.length cph0, .bool r0.2.1, .slice aeh0 r0.2.2.length cqh0] 26) = w9 at *
  refine (eqV' _ _ _ _ _ w9 (by omega) oh0 ow0).mono ?_
  rintro e w10 ⟨rfl, bw10⟩
  have ow0 := ow0.below bw10 (Nat.le_refl _)
  have obw0 := obw0.below bw10 (Nat.le_refl _)
  have og0 := og0.below bw10 (Nat.le_refl _)
  have obg0 := obg0.below bw10 (Nat.le_refl _)
  have oh0 := oh0.below bw10 (Nat.le_refl _)
  have obh0 := obh0.below bw10 (Nat.le_refl _)
  have B := B.trans (bw10.mono B.size)
  clear bw10
  have cbw00 := obw0.c0
  have cbw01 := obw0.c1
  have cbw02 := obw0.c2
  have cbw03 := obw0.c3
  have hbw0 := obw0.hi
  have cbg00 := obg0.c0
  have cbg01 := obg0.c1
  have cbg02 := obg0.c2
  have cbg03 := obg0.c3
  have hbg0 := obg0.hi
  have cbh00 := obh0.c0
  have cbh01 := obh0.c1
  have cbh02 := obh0.c2
  have cbh03 := obh0.c3
  have hbh0 := obh0.hi
  go_wp2_with fail
  clear cbw00 cbw01 cbw02 cbw03 hbw0
  clear cbg00 cbg01 cbg02 cbg03 hbg0
  clear cbh00 cbh01 cbh02 cbh03 hbh0
  refine (heldV _ _ r0.1.1 r0.2.1 (1) r0.1.2.length r0.2.2.length w10 (by omega) (by omega) (by omega) (by omega) og0).mono ?_
  rintro e w11 ⟨rfl, bw11⟩
  have ow0 := ow0.below bw11 (Nat.le_refl _)
  have obw0 := obw0.below bw11 (Nat.le_refl _)
  have og0 := og0.below bw11 (Nat.le_refl _)
  have obg0 := obg0.below bw11 (Nat.le_refl _)
  have oh0 := oh0.below bw11 (Nat.le_refl _)
  have obh0 := obh0.below bw11 (Nat.le_refl _)
  have B := B.trans (bw11.mono B.size)
  clear bw11
  have cbw00 := obw0.c0
  have cbw01 := obw0.c1
  have cbw02 := obw0.c2
  have cbw03 := obw0.c3
  have hbw0 := obw0.hi
  have cbg00 := obg0.c0
  have cbg01 := obg0.c1
  have cbg02 := obg0.c2
  have cbg03 := obg0.c3
  have hbg0 := obg0.hi
  have cbh00 := obh0.c0
  have cbh01 := obh0.c1
  have cbh02 := obh0.c2
  have cbh03 := obh0.c3
  have hbh0 := obh0.hi
  go_wp2
  go_ret
  exact ⟨rfl, B⟩

set_option maxHeartbeats 1600000 in
theorem walkGainSquare (k0 : Int) (k1 : Int) (w : World) (hk0 : -9223372036854775808 ≤ k0 ∧ k0 ≤ 9223372036854775807) (hk1 : -9223372036854775808 ≤ k1 ∧ k1 ≤ 9223372036854775807) (hR : (gsR k0 k1).1.1.2.length ≤ 1048576 ∧ (gsR k0 k1).1.2.2.length ≤ 1048576)
    (hS : ∀ (k0 : Int) (k1 : Int) (W : World), -9223372036854775808 ≤ k0 → k0 ≤ 9223372036854775807 → -9223372036854775808 ≤ k1 → k1 ≤ 9223372036854775807 → Calls Try.prog 6 #[.int .i64 k0, .int .i64 k1] W (fun e w' => ∃ v0, e = .returned (.tuple #[v0, .bool (gsR k0 k1).2]) ∧ ownsV w' W.heap.size v0 (gsR k0 k1).1 ∧ Below W.heap.size W w'))
    (hI : ∀ (k0 : Int) (k1 : Int) (W : World), -9223372036854775808 ≤ k0 → k0 ≤ 9223372036854775807 → -9223372036854775808 ≤ k1 → k1 ≤ 9223372036854775807 → Calls Try.prog 7 #[.int .i64 k0, .int .i64 k1] W (fun e w' => ∃ v0, e = .returned (.tuple #[v0, .bool (gsR k0 k1).2]) ∧ ownsV w' W.heap.size v0 (gsR k0 k1).1 ∧ Below W.heap.size W w')) :
    Calls Try.prog 3 #[.int .i64 k0, .int .i64 k1] w fun e w' => e = .returned (.bool true) ∧ Below w.heap.size w w' := by
  exact walkGainSquare_in k0 k1 w  hk0 hk1 hR hS hI

end Go.Proofs.Ytmbopjjpepbgkaa
