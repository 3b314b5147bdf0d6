/- The law FnExactNatText: its walk, out of the two contracts (written by genlaw.py from the signature N>S). -/
import Derived.Test.YtnojigofojjopaaDoorTn0
import Derived.Test.YtnojigofojjopaaDoorITextB
import Derived.Test.YtnojigofojjopaaDoorToI
namespace Go.Proofs.YtnojigofojjopaaDoor
open Go.RowKit

set_option maxHeartbeats 3200000 in
theorem walkNatText_in (a0 : Option Addr) (n0 c0 : Nat) (zs0 : List Int) (w : World) (h0 : n0 ≤ 1048576) (hr0 : IsRow .i64 w a0 n0 c0 zs0)
    (hS : ∀ (va0 : Value) (xs0 : List Int) (W : World), rowI W va0 xs0 → xs0.length ≤ 1048576 → Calls Tryd.prog 6 #[va0] W (fun e w' => e = .returned (.string (textR xs0)) ∧ Below W.heap.size W w'))
    (hI : ∀ (va0 : Value) (xs0 : List Int) (W : World), Below w.heap.size w W → rowI W va0 xs0 → xs0.length ≤ 1048576 → Calls Tryd.prog 8 #[va0] W (fun e w' => e = .returned (.string (textR xs0)) ∧ Below W.heap.size W w')) :
    Calls Tryd.prog 3 #[.slice a0 n0 c0] w fun e w' => e = .returned (.bool true) ∧ Below w.heap.size w w' := by
  have h0' : ¬ (1048576 : Int) < (n0 : Int) := by omega
  have T0 : ∀ W : World, IsRow .i64 W a0 n0 c0 zs0 → Calls Tryd.prog 7 #[.slice a0 n0 c0] W fun e w' => ∃ v, e = .returned v ∧ ownsI w' W.heap.size v (zs0.take n0) ∧ Below W.heap.size W w' := fun W h => toI a0 n0 c0 zs0 W (by omega) h
  have l0 : (zs0.take n0).length ≤ 1048576 := by rw [List.length_take]; omega
  obtain ⟨xs0, hxs0⟩ : ∃ xs, zs0.take n0 = xs := ⟨_, rfl⟩
  rw [hxs0] at T0 l0
  clear hxs0
  have S := fun va0 W q0 => hS va0 xs0 W q0 l0
  have I := fun va0 W hb q0 => hI va0 xs0 W hb q0 l0
  obtain ⟨r0, hr⟩ : ∃ r0, textR xs0 = r0 := ⟨_, rfl⟩
  simp only [hr] at S I
  clear hS hI hr
  have B := Below.refl w.heap.size w
  go_enter Tryd.func3, Tryd.ntmps3
  -- the specification's answer
  go_wp2_with fail
  refine (T0 w (hr0.below B)).mono ?_
  rintro e w1 ⟨vs0, rfl, os0, bw1⟩
  have B := B.trans (bw1.mono B.size)
  clear bw1
  go_wp2_with fail
  refine (S _ w1 os0.row).mono ?_
  rintro e w2 ⟨rfl, bw2⟩
  have os0 := os0.below bw2 (Nat.le_refl _)
  have B := B.trans (bw2.mono B.size)
  clear bw2
  clear os0
  -- the arguments, copied; the program's answer
  go_wp2_with fail
  refine (T0 w2 (hr0.below B)).mono ?_
  rintro e w3 ⟨vx0, rfl, ox0, bw3⟩
  have mx0 : ∀ k ∈ blkI vx0, w.heap.size ≤ k := fun k hk => Nat.le_trans B.size (ox0.ltb k hk).1
  have B := B.trans (bw3.mono B.size)
  clear bw3
  go_wp2_with fail
  refine (I _ w3 B ox0.row).mono ?_
  rintro e w4 ⟨rfl, bw4⟩
  have ox0 := ox0.below bw4 (Nat.le_refl _)
  have B := B.trans (bw4.mono B.size)
  clear bw4
  -- the copies are as they were
  go_wp2_with fail
  refine (T0 w4 (hr0.below B)).mono ?_
  rintro e w5 ⟨vy0, rfl, oy0, bw5⟩
  have ox0 := ox0.below bw5 (Nat.le_refl _)
  have B := B.trans (bw5.mono B.size)
  clear bw5
  go_wp2_with fail
  refine (eqI' _ _ _ _ _ w5 (by omega) ox0 oy0).mono ?_
  rintro e w6 ⟨rfl, bw6⟩
  have ox0 := ox0.below bw6 (Nat.le_refl _)
  have oy0 := oy0.below bw6 (Nat.le_refl _)
  have B := B.trans (bw6.mono B.size)
  clear bw6
  clear oy0
  clear ox0
  go_wp2
  go_ret
  exact ⟨rfl, B⟩

set_option maxHeartbeats 1600000 in
theorem walkNatText (a0 : Option Addr) (n0 c0 : Nat) (zs0 : List Int) (w : World) (hr0 : IsRow .i64 w a0 n0 c0 zs0)
    (hS : ∀ (va0 : Value) (xs0 : List Int) (W : World), rowI W va0 xs0 → xs0.length ≤ 1048576 → Calls Tryd.prog 6 #[va0] W (fun e w' => e = .returned (.string (textR xs0)) ∧ Below W.heap.size W w'))
    (hI : ∀ (va0 : Value) (xs0 : List Int) (W : World), Below w.heap.size w W → rowI W va0 xs0 → xs0.length ≤ 1048576 → Calls Tryd.prog 8 #[va0] W (fun e w' => e = .returned (.string (textR xs0)) ∧ Below W.heap.size W w')) :
    Calls Tryd.prog 3 #[.slice a0 n0 c0] w fun e w' => e = .returned (.bool true) ∧ Below w.heap.size w w' := by
  by_cases h0 : n0 ≤ 1048576
  · skip
    exact walkNatText_in a0 n0 c0 zs0 w h0 hr0 hS hI
  · have h0' : (1048576 : Int) < (n0 : Int) := by omega
    clear hS hI
    go_enter Tryd.func3, Tryd.ntmps3
    go_wp2
    go_ret
    exact ⟨rfl, Below.refl _ _⟩

end Go.Proofs.YtnojigofojjopaaDoor
