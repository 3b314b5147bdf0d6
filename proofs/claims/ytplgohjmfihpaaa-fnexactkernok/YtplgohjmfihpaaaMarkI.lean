/- The law's own markIntS and heldIntS, each by its contract. -/
import Derived.Test.YtplgohjmfihpaaaEqI
namespace Go.Proofs.Ytplgohjmfihpaaa
open Go.RowKit

set_option maxHeartbeats 800000 in
theorem markI_nil (a : Option Addr) (c : Nat) (k : Int) (w : World) :
    Calls Try.prog 23 #[.slice a 0 c, .int .i64 k] w fun e w' => e = .returned (.int .i64 k) ∧ w' = w := by
  go_enter Try.func23, Try.ntmps23
  go_wp2
  refine wp_loop_rounds 1 ?_
  rw [rounds_succ]
  go_wp2
  go_ret
  exact ⟨rfl, rfl⟩

set_option maxHeartbeats 1600000 in
theorem markI_row (b g n c : Nat) (xs : List Int) (k : Int) (w : World) (hn : xs.length = n) (hm : n ≤ 1099511627776) (hk0 : 0 ≤ k) (hk1 : k ≤ 1099511627776)
    (h : w.ownsRow b 3 1 (.slice (some ⟨g, 0, none⟩) n c) n (xs.map (Value.int .i64))) :
    Calls Try.prog 23 #[.slice (some ⟨g, 0, none⟩) n c, .int .i64 k] w fun e w' => e = .returned (.int .i64 (k + n)) ∧
      w'.ownsRow b 3 1 (.slice (some ⟨g, 0, none⟩) n c) n ((marksI k n).map (Value.int .i64)) ∧ w.grownBy w' (some g) := by
  go_enter Try.func23, Try.ntmps23
  go_wp2
  go_loopw [1, 5] (fun t i wr => ∃ j : Nat, j ≤ n ∧ i = .int .i64 j ∧ t = .int .i64 (k + j) ∧ wr.ownsRow b 3 1 (.slice (some ⟨g, 0, none⟩) n c) n ((marksI k j ++ xs.drop j).map (Value.int .i64)) ∧ w.grownBy wr (some g)) (fun _ i _ => n - (intOf i).toNat)
  case atStart => exact ⟨0, Nat.zero_le _, rfl, by go_num, h, World.grownBy.refl _ _⟩
  case round =>
    obtain ⟨j, hj, rfl, rfl, hown, hg⟩ := hrel
    by_cases hlt : j < n
    · have hc := cellsI_of hown (by simp [marksI_length]; omega) j hlt
      have hf := hown.frozenAt j
      have hs := hown.stored j (.int .i64 (k + j))
      clear hown
      go_wp2
      go_roundw
      case rel => exact ⟨j + 1, by omega, by go_num, by go_num, by rw [← marksI_step k xs j (by omega)]; exact hs.1, grown_trans hg hs.2⟩
      case measure => simp [intOf]; omega
    · have hjn : j = n := by omega
      subst hjn
      rw [List.drop_of_length_le (by omega), List.append_nil] at hown
      go_wp2
      go_ret
      exact ⟨rfl, hown, hg⟩

/-- markIntS of a row: it holds the marksI behind it; nothing else turns. -/
theorem markI (b : Nat) (va : Value) (xs : List Int) (k : Int) (w : World) (hm : xs.length ≤ 1099511627776) (hk0 : 0 ≤ k) (hk1 : k ≤ 1099511627776) (h1 : ownsI w b va xs) :
    Calls Try.prog 23 #[va, .int .i64 k] w fun e w' => e = .returned (.int .i64 (k + xs.length)) ∧ ownsI w' b va (marksI k xs.length) ∧ w.grownBy w' va.ownBlock := by
  unfold ownsI
  rw [marksI_length]
  rcases h1.2 with ⟨rfl, h0⟩ | ⟨g1, c1, _, rfl, -⟩
  · rw [h0]
    refine (markI_nil _ _ k w).mono ?_
    rintro e w' ⟨rfl, rfl⟩
    exact ⟨by simp, World.ownsRow_nil _ _ _ _, World.grownBy.refl _ _⟩
  · exact markI_row b g1 _ c1 xs k w rfl hm hk0 hk1 h1

set_option maxHeartbeats 800000 in
theorem heldI_nil (a : Option Addr) (c : Nat) (k : Int) (w : World) :
    Calls Try.prog 73 #[.slice a 0 c, .int .i64 k] w fun e w' => e = .returned (.int .i64 k) ∧ w' = w := by
  go_enter Try.func73, Try.ntmps73
  go_wp2
  refine wp_loop_rounds 1 ?_
  rw [rounds_succ]
  go_wp2
  go_ret
  exact ⟨rfl, rfl⟩

set_option maxHeartbeats 1600000 in
theorem heldI_row (g n c : Nat) (k : Int) (w : World) (hm : n ≤ 1099511627776) (hk0 : 0 ≤ k) (hk1 : k ≤ 1099511627776)
    (h : ∀ j : Nat, j < n → w.cell? ⟨g, j, none⟩ = some (.int .i64 (k + j))) :
    Calls Try.prog 73 #[.slice (some ⟨g, 0, none⟩) n c, .int .i64 k] w fun e w' => e = .returned (.int .i64 (k + n)) ∧ w' = w := by
  go_enter Try.func73, Try.ntmps73
  go_wp2
  go_loop [1, 5] (fun t i => ∃ j : Nat, j ≤ n ∧ i = .int .i64 j ∧ t = .int .i64 (k + j)) (fun _ i => n - (intOf i).toNat)
  case atStart => exact ⟨0, Nat.zero_le _, rfl, by go_num⟩
  case round =>
    obtain ⟨j, hj, rfl, rfl⟩ := hrel
    by_cases hlt : j < n
    · have hc := h j hlt
      go_wp2
      go_round
      case rel => exact ⟨j + 1, by omega, by go_num, by go_num⟩
      case measure => simp [intOf]; omega
    · have hjn : j = n := by omega
      subst hjn
      go_wp2
      go_ret
      exact ⟨rfl, rfl⟩

/-- heldIntS of a row that holds the marksI: the number behind the last one. -/
theorem heldI (b : Nat) (va : Value) (k : Int) (n : Nat) (w : World) (hm : n ≤ 1099511627776) (hk0 : 0 ≤ k) (hk1 : k ≤ 1099511627776) (h1 : ownsI w b va (marksI k n)) :
    Calls Try.prog 73 #[va, .int .i64 k] w fun e w' => e = .returned (.int .i64 (k + n)) ∧ w' = w := by
  unfold ownsI at h1
  rw [marksI_length] at h1
  rcases h1.2 with ⟨rfl, h0⟩ | ⟨g1, c1, _, rfl, -⟩
  · subst h0
    refine (heldI_nil _ _ k w).mono ?_
    rintro e w' ⟨rfl, rfl⟩
    exact ⟨by simp, rfl⟩
  · refine heldI_row g1 n c1 k w hm hk0 hk1 fun j hj => ?_
    rw [h1.cellAt j (by omega), List.getElem?_map, marksI_get k n j hj]; rfl

end Go.Proofs.Ytplgohjmfihpaaa
