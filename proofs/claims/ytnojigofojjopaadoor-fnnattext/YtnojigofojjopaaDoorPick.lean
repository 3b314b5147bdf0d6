/- l1PickInt: one of the numbers of a list. -/
import Derived.Test.YtnojigofojjopaaDoorCur
namespace Go.Proofs.YtnojigofojjopaaDoor
open Go.RowKit

set_option maxHeartbeats 1600000 in
theorem pickInt (B g n c : Nat) (xs : List Int) (w : World) (hc : CurAt w B) (hn : xs.length = n) (h0 : 0 < n) (h1 : n ≤ 4096) (hg : g ≠ B) (hcell : ∀ j, j < n → w.cell? ⟨g, j, none⟩ = some (.int .i64 (xs.getD j 0))) :
    Calls Tryd.prog 37 #[.pointer (some ⟨B, 0, none⟩), .slice (some ⟨g, 0, none⟩) n c] w fun e w' => ∃ x, e = .returned (.int .i64 x) ∧ x ∈ xs ∧ CurAt w' B ∧ w.grownBy w' (some B) := by
  go_enter Tryd.func37, Tryd.ntmps37
  go_wp2_with fail
  refine (curBelow B n w hc (by omega)).mono ?_
  rintro e w1 ⟨x, rfl, x0, x1, -, c1, g1⟩
  have x2 := x1 (by omega)
  obtain ⟨k, rfl⟩ := Int.eq_ofNat_of_zero_le x0
  have hk : k < n := by omega
  have hcc : w1.cell? ⟨g, k, none⟩ = some (.int .i64 (xs.getD k 0)) := g1.cell (hcell k hk) (by simpa using hg)
  have hmem : xs.getD k 0 ∈ xs := by
    rw [List.getD_eq_getElem?_getD, List.getElem?_eq_getElem (by omega : k < xs.length)]
    exact List.getElem_mem _
  obtain ⟨y, hy⟩ : ∃ y, xs.getD k 0 = y := ⟨_, rfl⟩
  rw [hy] at hcc hmem
  clear hy x1 hcell
  go_wp2
  go_ret
  exact ⟨_, rfl, hmem, c1, g1⟩

end Go.Proofs.YtnojigofojjopaaDoor
