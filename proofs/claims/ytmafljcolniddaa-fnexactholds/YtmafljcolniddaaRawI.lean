/- low, raw and has of the program, each by its contract. -/
import Derived.Test.YtmafljcolniddaaRawOf
import Derived.Test.YtmafljcolniddaaHoldM
import Derived.Test.YtmafljcolniddaaSSm
import Derived.Laws.BitsAllLaws
namespace Go.Proofs.Ytmafljcolniddaa
open Go.RowKit
set_option linter.unusedSimpArgs false

set_option maxRecDepth 20000 in
set_option maxHeartbeats 6400000 in
/-- low: some word. -/
theorem iLow (b : Nat) (z : Int) (w : World) (h : SG w b z) :
    Calls Try.prog 50 #[.pointer (some ⟨b, 0, none⟩)] w fun e w' => ∃ x : Int, e = .returned (.int .u64 x) ∧ Below w.heap.size w w' := by
  have hm := h.mag
  have c0 := hm.word 0 (by omega)
  have c1 := hm.word 1 (by omega)
  have c2 := hm.word 2 (by omega)
  have cs := h.sign
  have g0 := inR_getD (limbs_inR z.natAbs) 0
  have g1 := inR_getD (limbs_inR z.natAbs) 1
  have g2 := inR_getD (limbs_inR z.natAbs) 2
  generalize (limbs z.natAbs).getD 0 0 = d0 at *
  generalize (limbs z.natAbs).getD 1 0 = d1 at *
  generalize (limbs z.natAbs).getD 2 0 = d2 at *
  generalize decide (z < 0) = sg at *
  obtain ⟨g00, g01⟩ := g0
  obtain ⟨g10, g11⟩ := g1
  obtain ⟨g20, g21⟩ := g2
  clear hm h
  cases sg
  · go_enter Try.func50, Try.ntmps50
    go_wp2
    go_quiet (fail)
    go_wp2
    go_ret
    exact ⟨_, rfl, ⟨rfl, rfl, rfl, Nat.le_refl _, fun _ _ => rfl⟩⟩
  · go_enter Try.func50, Try.ntmps50
    go_wp2
    go_quiet (fail)
    go_wp2
    go_ret
    exact ⟨_, rfl, ⟨rfl, rfl, rfl, Nat.le_refl _, fun _ _ => rfl⟩⟩

end Go.Proofs.Ytmafljcolniddaa
