/- l1Pick: one of the texts of a list. -/
import Derived.Test.YtocaaklhlmnonaaCur
namespace Go.Proofs.Ytocaaklhlmnonaa
open Go.RowKit

set_option maxHeartbeats 1600000 in
theorem pickS (B g n c : Nat) (xs : List ByteArray) (w : World) (hc : CurAt w B) (hn : xs.length = n) (h0 : 0 < n) (h1 : n ≤ 4096) (hg : g ≠ B) (hcell : ∀ j, j < n → w.cell? ⟨g, j, none⟩ = some (.string (xs.getD j ⟨#[]⟩))) :
    Calls Try.prog 74 #[.pointer (some ⟨B, 0, none⟩), .slice (some ⟨g, 0, none⟩) n c] w fun e w' => ∃ x, e = .returned (.string x) ∧ x ∈ xs ∧ CurAt w' B ∧ w.grownBy w' (some B) := by
  go_enter Try.func74, Try.ntmps74
  go_wp2_with fail
  refine (curBelow B n w hc (by omega)).mono ?_
  rintro e w1 ⟨x, rfl, x0, x1, -, c1, g1⟩
  have x2 := x1 (by omega)
  obtain ⟨k, rfl⟩ := Int.eq_ofNat_of_zero_le x0
  have hk : k < n := by omega
  have hcc : w1.cell? ⟨g, k, none⟩ = some (.string (xs.getD k ⟨#[]⟩)) := g1.cell (hcell k hk) (by simpa using hg)
  have hmem : xs.getD k ⟨#[]⟩ ∈ xs := by
    rw [List.getD_eq_getElem?_getD, List.getElem?_eq_getElem (by omega : k < xs.length)]
    exact List.getElem_mem _
  obtain ⟨y, hy⟩ : ∃ y, xs.getD k ⟨#[]⟩ = y := ⟨_, rfl⟩
  rw [hy] at hcc hmem
  clear hy x1 hcell
  go_wp2
  go_ret
  exact ⟨_, rfl, hmem, c1, g1⟩

end Go.Proofs.Ytocaaklhlmnonaa
