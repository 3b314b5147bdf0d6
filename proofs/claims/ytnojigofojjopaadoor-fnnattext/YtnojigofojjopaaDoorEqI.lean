/- The law's own eqIntS, by its contract. -/
import Derived.Test.YtnojigofojjopaaDoorOwnI
import Derived.Deep.QuietTactic
import Derived.BigQuiet
namespace Go.Proofs.YtnojigofojjopaaDoor
open Go.RowKit

set_option maxHeartbeats 800000 in
theorem eqI_nil (a b : Option Addr) (c d : Nat) (w : World) :
    Calls Tryd.prog 9 #[.slice a 0 c, .slice b 0 d] w fun e w' => e = .returned (.bool true) ∧ ∃ n, w' = w.drewN n := by
  go_enter Tryd.func9, Tryd.ntmps9
  go_wp2
  refine wp_loop_rounds 1 ?_
  rw [rounds_succ]
  go_wp2
  go_ret
  exact ⟨rfl, 0, rfl⟩

set_option maxHeartbeats 1600000 in
theorem eqI_row (g1 g2 n c d : Nat) (xs : List Int) (w : World) (hn : xs.length = n) (hm : n ≤ 1099511627776)
    (h1 : ∀ j, j < n → w.cell? ⟨g1, j, none⟩ = some (.int .i64 (xs.getD j 0))) (h2 : ∀ j, j < n → w.cell? ⟨g2, j, none⟩ = some (.int .i64 (xs.getD j 0))) :
    Calls Tryd.prog 9 #[.slice (some ⟨g1, 0, none⟩) n c, .slice (some ⟨g2, 0, none⟩) n d] w fun e w' => e = .returned (.bool true) ∧ ∃ n, w' = w.drewN n := by
  go_enter Tryd.func9, Tryd.ntmps9
  go_wp2
  go_loopw [5] (fun i wr => ∃ k m : Nat, k ≤ n ∧ i = .int .i64 k ∧ wr = w.drewN m) (fun i _ => n - (intOf i).toNat)
  case atStart => exact ⟨0, 0, Nat.zero_le _, rfl, rfl⟩
  case round =>
    obtain ⟨k, m, hk, rfl, rfl⟩ := hrel
    by_cases hlt : k < n
    · have c1 : (w.drewN m).cell? ⟨g1, k, none⟩ = some (.int .i64 (xs.getD k 0)) := h1 k hlt
      have c2 : (w.drewN m).cell? ⟨g2, k, none⟩ = some (.int .i64 (xs.getD k 0)) := h2 k hlt
      go_wp2
      go_quiet (fail)
      go_wp2
      go_roundw
      case rel => exact ⟨k + 1, m + nq, by omega, by go_num, rfl⟩
      case measure => simp [intOf]; omega
    · go_wp2
      go_ret
      exact ⟨rfl, m, rfl⟩

theorem cellsI_of {w : World} {base g n cap : Nat} {xs : List Int} (h : w.ownsRow base 3 1 (.slice (some ⟨g, 0, none⟩) n cap) n (xs.map (Value.int .i64))) (hn : xs.length = n) :
    ∀ j, j < n → w.cell? ⟨g, j, none⟩ = some (.int .i64 (xs.getD j 0)) := by
  intro j hj
  rw [h.cellAt j (by omega)]
  simp [List.getElem?_map, List.getElem?_eq_getElem (by omega : j < xs.length), List.getD]

/-- eqIntS of two rows that hold the same bytes: true; nothing turns but the tape. -/
theorem eqI (b1 b2 : Nat) (va vb : Value) (xs : List Int) (w : World) (hm : xs.length ≤ 1099511627776) (h1 : ownsI w b1 va xs) (h2 : ownsI w b2 vb xs) :
    Calls Tryd.prog 9 #[va, vb] w fun e w' => e = .returned (.bool true) ∧ ∃ n, w' = w.drewN n := by
  rcases h1.2 with ⟨rfl, h0⟩ | ⟨g1, c1, _, rfl, -⟩ <;> rcases h2.2 with ⟨rfl, h0'⟩ | ⟨g2, c2, _, rfl, -⟩
  · exact eqI_nil _ _ _ _ w
  · rw [h0]; exact eqI_nil _ _ _ _ w
  · rw [h0']; exact eqI_nil _ _ _ _ w
  · exact eqI_row g1 g2 _ c1 c2 xs w rfl hm (cellsI_of h1 rfl) (cellsI_of h2 rfl)

theorem eqI' (b1 b2 : Nat) (va vb : Value) (xs : List Int) (w : World) (hm : xs.length ≤ 1099511627776) (h1 : ownsI w b1 va xs) (h2 : ownsI w b2 vb xs) :
    Calls Tryd.prog 9 #[va, vb] w fun e w' => e = .returned (.bool true) ∧ Below w.heap.size w w' := by
  refine (eqI b1 b2 va vb xs w hm h1 h2).mono ?_
  rintro e w' ⟨rfl, n, rfl⟩
  exact ⟨rfl, ⟨rfl, rfl, rfl, Nat.le_refl _, fun _ _ => rfl⟩⟩

theorem apart_symm {v1 v2 : Value} (h : v1.ownBlock = none ∨ v1.ownBlock ≠ v2.ownBlock) : v2.ownBlock = none ∨ v2.ownBlock ≠ v1.ownBlock := by
  cases h2 : v2.ownBlock with
  | none => exact .inl rfl
  | some k =>
    refine .inr fun e => ?_
    rcases h with h | h
    · rw [h] at e; cases e
    · exact h (by rw [← e, h2])

end Go.Proofs.YtnojigofojjopaaDoor
