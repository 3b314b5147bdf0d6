/- Helpers of the laws over a code: big, tail, sameInts, each by its contract. -/
import Derived.Test.YtocaaklhlmnonaaCur
import Derived.Test.YtocaaklhlmnonaaRowI
namespace Go.Proofs.Ytocaaklhlmnonaa
open Go.RowKit

set_option maxHeartbeats 800000 in
theorem big_no (a : Option Addr) (len cap : Nat) (w : World) (h : len ≤ 1048576) :
    Calls Try.prog 43 #[.slice a len cap] w fun e w' => e = .returned (.bool false) ∧ w' = w := by
  have h' : ¬ (1048576 : Int) < (len : Int) := by omega
  go_enter Try.func43, Try.ntmps43
  go_wp2
  go_ret
  exact ⟨rfl, rfl⟩
set_option maxHeartbeats 800000 in
theorem big_yes (a : Option Addr) (len cap : Nat) (w : World) (h : ¬ len ≤ 1048576) :
    Calls Try.prog 43 #[.slice a len cap] w fun e w' => e = .returned (.bool true) ∧ w' = w := by
  have h' : (1048576 : Int) < (len : Int) := by omega
  go_enter Try.func43, Try.ntmps43
  go_wp2
  go_ret
  exact ⟨rfl, rfl⟩

/-- A law over a code: what holds of codes of at most 2^20 bytes holds of all. -/
theorem law_big (F : FuncId) (hbig : ∀ (a : Option Addr) (len cap : Nat) (w : World), ¬ len ≤ 1048576 → Calls Try.prog F #[.slice a len cap] w fun e w' => e = .returned (.bool true) ∧ Below w.heap.size w w')
    (hin : ∀ (a : Option Addr) (len cap : Nat) (zs : List Int) (w : World), len ≤ 1048576 → CodeIs w a len cap zs → Calls Try.prog F #[.slice a len cap] w fun e w' => e = .returned (.bool true) ∧ Below w.heap.size w w')
    (a0 : Option Addr) (len0 cap0 : Nat) (z0 : List Int) (w : World) (h : IsRow .u8 w a0 len0 cap0 z0) : Calls Try.prog F #[.slice a0 len0 cap0] w fun e w' => e = .returned (.bool true) ∧ Below w.heap.size w w' := by
  by_cases hs : len0 ≤ 1048576
  · exact hin a0 len0 cap0 z0 w hs (code_of h)
  · exact hbig a0 len0 cap0 w hs

theorem CodeIs.tail {w : World} {x : Addr} {len cap : Nat} {zs : List Int} (h : CodeIs w (some x) len cap zs) (h0 : 0 < len) : CodeIs w (some (x.add 1)) (len - 1) (cap - 1) (zs.drop 1) := by
  obtain ⟨h1, h2⟩ := h
  rcases h1 with ⟨h, -⟩ | ⟨y, hy, g2, g3, g4, g5, g6⟩
  · cases h
  · cases hy
    have hsp : x.spot = none := by simpa [Addr.add] using World.cell?_spot (g5 0 (by omega))
    refine ⟨.inr ⟨_, rfl, by omega, by omega, by rw [List.length_drop]; omega, fun i hi => ?_, fun n hn => g6 n (List.mem_of_mem_drop hn)⟩, fun z hz hl => ?_⟩
    · have := g5 (i + 1) (by rw [List.length_drop] at hi; omega)
      rw [show (x.add 1).add i = x.add (i + 1) from ?_]
      · rw [this, List.getD_eq_getElem?_getD, List.getD_eq_getElem?_getD, List.getElem?_drop, Nat.add_comm 1 i]
      · obtain ⟨b, o, s⟩ := x
        simp only at hsp
        subst hsp
        unfold Addr.add
        by_cases hi0 : i = 0
        · subst hi0; simp
        · simp [hi0]; omega
    · cases hz
      rw [add_block]
      exact h2 x rfl (by omega)


end Go.Proofs.Ytocaaklhlmnonaa
