/- The program's small of a number with a sign, by its contract. -/
import Derived.Test.YtmafljcolniddaaSFrom
import Derived.Test.YtmafljcolniddaaGSmall
namespace Go.Proofs.Ytmafljcolniddaa
open Go.RowKit
set_option linter.unusedSimpArgs false

set_option maxRecDepth 20000 in
set_option maxHeartbeats 1600000 in
theorem sSmallS (b : Nat) (z : Int) (w : World) (h : SG w b z) :
    Calls Try.prog 48 #[.pointer (some ⟨b, 0, none⟩)] w fun e w' => e = .returned (.tuple #[.int .i64 (if nbits z.natAbs ≤ 63 then z else 0), .bool (decide (nbits z.natAbs ≤ 63))]) ∧ Below w.heap.size w w' := by
  have kS := gSmall b 1 z.natAbs w h.mag
  obtain ⟨z1, hz1⟩ : ∃ y, (if nbits z.natAbs ≤ 63 then z else 0) = y := ⟨_, rfl⟩
  obtain ⟨z0, hz0⟩ : ∃ y, (if nbits z.natAbs ≤ 63 then (z.natAbs : Int) else 0) = y := ⟨_, rfl⟩
  obtain ⟨z2, hz2⟩ : ∃ y, decide (nbits z.natAbs ≤ 63) = y := ⟨_, rfl⟩
  rw [hz0, hz2] at kS
  rw [hz1, hz2]
  have h63 := nbits_63 z.natAbs
  have hb0 : 0 ≤ z0 ∧ z0 ≤ 9223372036854775807 := by
    rw [← hz0]
    split
    · rename_i hh
      have := h63.1 hh
      omega
    · omega
  have hl := h.lt
  by_cases hn : z < 0
  · have HZ : Hid (z1 = -z0) := by
      show _ = _
      rw [← hz1, ← hz0]
      split <;> omega
    have hd : decide (z < 0) = true := decide_eq_true hn
    have c0 := h.sign
    rw [hd] at c0
    clear hz1 hz0 hz2 h63 hd hn
    go_enter Try.func48, Try.ntmps48
    go_wp2_with fail
    refine kS.mono ?_
    rintro e w1 ⟨rfl, b1⟩
    have c1 := (b1.cell (p := ⟨b, 0, none⟩) hl).trans c0
    go_wp2
    go_ret2
    exact ⟨by rw [HZ.out]; rfl, b1⟩
  · have HZ : Hid (z1 = z0) := by
      show _ = _
      rw [← hz1, ← hz0]
      split <;> omega
    have hd : decide (z < 0) = false := decide_eq_false hn
    have c0 := h.sign
    rw [hd] at c0
    clear hz1 hz0 hz2 h63 hd hn
    go_enter Try.func48, Try.ntmps48
    go_wp2_with fail
    refine kS.mono ?_
    rintro e w1 ⟨rfl, b1⟩
    have c1 := (b1.cell (p := ⟨b, 0, none⟩) hl).trans c0
    go_wp2
    go_ret2
    exact ⟨by rw [HZ.out]; rfl, b1⟩

end Go.Proofs.Ytmafljcolniddaa
