/- The law's own eqByteS, by its contract. -/
import Derived.Test.YtmaemcfcoieejaaParts
import Derived.Deep.QuietTactic
import Derived.BigQuiet
namespace Go.Proofs.Ytmaemcfcoieejaa
open Go.RowKit

theorem cells_of {w : World} {base g n cap : Nat} {xs : List Int} (h : w.ownsRow base 5 1 (.slice (some ⟨g, 0, none⟩) n cap) n (xs.map (Value.int .u8))) (hn : xs.length = n) :
    ∀ j, j < n → w.cell? ⟨g, j, none⟩ = some (.int .u8 (xs.getD j 0)) := by
  intro j hj
  rw [h.cellAt j (by omega)]
  simp [List.getElem?_map, List.getElem?_eq_getElem (by omega : j < xs.length), List.getD]

end Go.Proofs.Ytmaemcfcoieejaa
