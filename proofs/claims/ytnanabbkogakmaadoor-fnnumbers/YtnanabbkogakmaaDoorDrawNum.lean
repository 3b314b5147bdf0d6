/- The draws of FnNumbers: DrawPutNum, DrawParts: what they hand out is bounded. -/
import Derived.Test.YtnanabbkogakmaaDoorPick
import Derived.Test.YtnanabbkogakmaaDoorPickS
namespace Go.Proofs.YtnanabbkogakmaaDoor
open Go.RowKit

theorem cells_lit (w : World) (xs : List Int) (t : TypeId) : ∀ j, j < xs.length → (w.alloc (.cells (xs.map (Value.int .i64)).toArray t)).cell? ⟨w.heap.size, j, none⟩ = some (.int .i64 (xs.getD j 0)) := by
  intro j hj
  rw [cell_of_row _ _ j _ t (0, 0) (heap_alloc_new w _)]
  simp [List.getElem?_eq_getElem hj]
theorem cells_litS (w : World) (xs : List ByteArray) (t : TypeId) : ∀ j, j < xs.length → (w.alloc (.cells (xs.map Value.string).toArray t)).cell? ⟨w.heap.size, j, none⟩ = some (.string (xs.getD j ⟨#[]⟩)) := by
  intro j hj
  rw [cell_of_row _ _ j _ t (0, 0) (heap_alloc_new w _)]
  simp [List.getElem?_eq_getElem hj]

def putList : List Int := [0, 1, 127, 128, 300, 16384, 2147483647, 2147483648, -1, 9223372036854775807]

set_option maxHeartbeats 1600000 in
theorem drawPut (a : Option Addr) (len cap : Nat) (zs : List Int) (w : World) (hlen : len ≤ 1048576) (h : CodeIs w a len cap zs) :
    Calls Tryd.prog 5 #[.slice a len cap] w fun e w' => ∃ n, e = .returned (.int .i64 n) ∧ n ∈ putList ∧ Below w.heap.size w w' := by
  go_enter Tryd.func5, Tryd.ntmps5
  go_wp2_with fail
  refine (curNew a len cap zs w hlen h).mono ?_
  rintro e w1 ⟨rfl, c1, b1⟩
  have hs1 := c1.lt
  go_wp2_with fail
  refine (pickInt w.heap.size w1.heap.size 10 10 putList _ (c1.below ((Below.refl w1.heap.size w1).alloc (Nat.le_refl _) _) hs1) rfl (by omega) (by omega) (by omega) (cells_lit w1 putList 3)).mono ?_
  rintro e w2 ⟨x, rfl, hx, c2, g2⟩
  go_wp2
  go_ret
  exact ⟨_, rfl, hx, (b1.trans ((Below.refl _ _).alloc b1.size _)).grown g2 (by simp; omega) (fun k hk => by cases hk; exact Nat.le_refl _)⟩

def partList : List ByteArray := [⟨#[]⟩, ⟨#[97]⟩, ⟨#[97, 44, 98]⟩, ⟨#[44]⟩, ⟨#[97, 44, 44, 98, 44]⟩, ⟨#[97, 47, 98, 44, 99, 47]⟩]

set_option maxHeartbeats 1600000 in
theorem drawParts (a : Option Addr) (len cap : Nat) (zs : List Int) (w : World) (hlen : len ≤ 1048576) (h : CodeIs w a len cap zs) :
    Calls Tryd.prog 9 #[.slice a len cap] w fun e w' => ∃ s y, e = .returned (.tuple #[.string s, .int .u8 y]) ∧ s ∈ partList ∧ (y = 44 ∨ y = 47) ∧ Below w.heap.size w w' := by
  go_enter Tryd.func9, Tryd.ntmps9
  go_wp2_with fail
  refine (curNew a len cap zs w hlen h).mono ?_
  rintro e w1 ⟨rfl, c1, b1⟩
  have hs1 := c1.lt
  go_wp2_with fail
  refine (pickS w.heap.size w1.heap.size 6 6 partList _ (c1.below ((Below.refl w1.heap.size w1).alloc (Nat.le_refl _) _) hs1) rfl (by omega) (by omega) (by omega) (cells_litS w1 partList 9)).mono ?_
  rintro e w2 ⟨s, rfl, hsm, c2, g2⟩
  have hs2 := c2.lt
  have b2 : Below w.heap.size w w2 := (b1.trans ((Below.refl _ _).alloc b1.size _)).grown g2 (by simp; omega) (fun k hk => by cases hk; exact Nat.le_refl _)
  clear g2 b1
  go_wp2_with fail
  refine (pickInt w.heap.size w2.heap.size 2 2 [44, 47] _ (c2.below ((Below.refl w2.heap.size w2).alloc (Nat.le_refl _) _) hs2) rfl (by omega) (by omega) (by omega) (cells_lit w2 [44, 47] 3)).mono ?_
  rintro e w3 ⟨y, rfl, hy, c3, g3⟩
  have hy' : y = 44 ∨ y = 47 := by simpa using hy
  have b3 : Below w.heap.size w w3 := (b2.trans ((Below.refl _ _).alloc b2.size _)).grown g3 (by simp; omega) (fun k hk => by cases hk; exact Nat.le_refl _)
  have y0 : 0 ≤ y := by omega
  have y1 : y ≤ 255 := by omega
  clear hy c3 g3 c2
  go_wp2
  go_ret2
  exact ⟨_, _, rfl, hsm, hy', b3⟩

end Go.Proofs.YtnanabbkogakmaaDoor
