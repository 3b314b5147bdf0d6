/- The law's own helpers on rows of bytes: eqByteS, markByteS, heldByteS, each by its contract. -/
import Derived.Test.YtnanabbkogakmalParts
import Derived.Deep.QuietTactic
import Derived.BigQuiet
namespace Go.Proofs.Ytnanabbkogakmal
open Go.RowKit

set_option maxHeartbeats 800000 in
theorem eqB_nil (a b : Option Addr) (c d : Nat) (w : World) :
    Calls Try.prog 7 #[.slice a 0 c, .slice b 0 d] w fun e w' => e = .returned (.bool true) ∧ ∃ n, w' = w.drewN n := by
  go_enter Try.func7, Try.ntmps7
  go_wp2
  refine wp_loop_rounds 1 ?_
  rw [rounds_succ]
  go_wp2
  go_ret
  exact ⟨rfl, 0, rfl⟩

set_option maxHeartbeats 1600000 in
theorem eqB_row (g1 g2 n c d : Nat) (xs : List Int) (w : World) (hn : xs.length = n) (hm : n ≤ 1099511627776)
    (h1 : ∀ j, j < n → w.cell? ⟨g1, j, none⟩ = some (.int .u8 (xs.getD j 0))) (h2 : ∀ j, j < n → w.cell? ⟨g2, j, none⟩ = some (.int .u8 (xs.getD j 0))) :
    Calls Try.prog 7 #[.slice (some ⟨g1, 0, none⟩) n c, .slice (some ⟨g2, 0, none⟩) n d] w fun e w' => e = .returned (.bool true) ∧ ∃ n, w' = w.drewN n := by
  go_enter Try.func7, Try.ntmps7
  go_wp2
  go_loopw [5] (fun i wr => ∃ k m : Nat, k ≤ n ∧ i = .int .i64 k ∧ wr = w.drewN m) (fun i _ => n - (intOf i).toNat)
  case atStart => exact ⟨0, 0, Nat.zero_le _, rfl, rfl⟩
  case round =>
    obtain ⟨k, m, hk, rfl, rfl⟩ := hrel
    by_cases hlt : k < n
    · have c1 : (w.drewN m).cell? ⟨g1, k, none⟩ = some (.int .u8 (xs.getD k 0)) := h1 k hlt
      have c2 : (w.drewN m).cell? ⟨g2, k, none⟩ = some (.int .u8 (xs.getD k 0)) := h2 k hlt
      go_wp2
      go_quiet (fail)
      go_wp2
      go_roundw
      case rel => exact ⟨k + 1, m + nq, by omega, by go_num, rfl⟩
      case measure => simp [intOf]; omega
    · go_wp2
      go_ret
      exact ⟨rfl, m, rfl⟩

theorem cells_of {w : World} {base g n cap : Nat} {xs : List Int} (h : w.ownsRow base 5 1 (.slice (some ⟨g, 0, none⟩) n cap) n (xs.map (Value.int .u8))) (hn : xs.length = n) :
    ∀ j, j < n → w.cell? ⟨g, j, none⟩ = some (.int .u8 (xs.getD j 0)) := by
  intro j hj
  rw [h.cellAt j (by omega)]
  simp [List.getElem?_map, List.getElem?_eq_getElem (by omega : j < xs.length), List.getD]

/-- eqByteS of two rows that hold the same bytes: true; nothing turns but the tape. -/
theorem eqB (b1 b2 : Nat) (va vb : Value) (xs : List Int) (w : World) (hm : xs.length ≤ 1099511627776) (h1 : ownsB w b1 va xs) (h2 : ownsB w b2 vb xs) :
    Calls Try.prog 7 #[va, vb] w fun e w' => e = .returned (.bool true) ∧ ∃ n, w' = w.drewN n := by
  rcases h1.2 with ⟨rfl, h0⟩ | ⟨g1, c1, _, rfl, -⟩ <;> rcases h2.2 with ⟨rfl, h0'⟩ | ⟨g2, c2, _, rfl, -⟩
  · exact eqB_nil _ _ _ _ w
  · rw [h0]; exact eqB_nil _ _ _ _ w
  · rw [h0']; exact eqB_nil _ _ _ _ w
  · exact eqB_row g1 g2 _ c1 c2 xs w rfl hm (cells_of h1 rfl) (cells_of h2 rfl)

set_option maxHeartbeats 800000 in
theorem markB_nil (a : Option Addr) (c : Nat) (k : Int) (w : World) :
    Calls Try.prog 8 #[.slice a 0 c, .int .i64 k] w fun e w' => e = .returned (.int .i64 k) ∧ w' = w := by
  go_enter Try.func8, Try.ntmps8
  go_wp2
  refine wp_loop_rounds 1 ?_
  rw [rounds_succ]
  go_wp2
  go_ret
  exact ⟨rfl, rfl⟩

set_option maxHeartbeats 1600000 in
theorem markB_row (b g n c : Nat) (xs : List Int) (k : Int) (w : World) (hn : xs.length = n) (hm : n ≤ 1099511627776) (hk0 : 0 ≤ k) (hk1 : k ≤ 1099511627776)
    (h : w.ownsRow b 5 1 (.slice (some ⟨g, 0, none⟩) n c) n (xs.map (Value.int .u8))) :
    Calls Try.prog 8 #[.slice (some ⟨g, 0, none⟩) n c, .int .i64 k] w fun e w' => e = .returned (.int .i64 (k + n)) ∧
      w'.ownsRow b 5 1 (.slice (some ⟨g, 0, none⟩) n c) n ((marks k n).map (Value.int .u8)) ∧ w.grownBy w' (some g) := by
  go_enter Try.func8, Try.ntmps8
  go_wp2
  go_loopw [1, 5] (fun t i wr => ∃ j : Nat, j ≤ n ∧ i = .int .i64 j ∧ t = .int .i64 (k + j) ∧ wr.ownsRow b 5 1 (.slice (some ⟨g, 0, none⟩) n c) n ((marks k j ++ xs.drop j).map (Value.int .u8)) ∧ w.grownBy wr (some g)) (fun _ i _ => n - (intOf i).toNat)
  case atStart => exact ⟨0, Nat.zero_le _, rfl, by go_num, h, World.grownBy.refl _ _⟩
  case round =>
    obtain ⟨j, hj, rfl, rfl, hown, hg⟩ := hrel
    by_cases hlt : j < n
    · have hc := cells_of hown (by simp [marks_length]; omega) j hlt
      have hf := hown.frozenAt j
      have hs := hown.stored j (.int .u8 ((k + j) % 256))
      clear hown
      go_wp2
      go_roundw
      case rel => exact ⟨j + 1, by omega, by go_num, by go_num, by rw [← marks_step k xs j (by omega)]; exact hs.1, grown_trans hg hs.2⟩
      case measure => simp [intOf]; omega
    · have hjn : j = n := by omega
      subst hjn
      rw [List.drop_of_length_le (by omega), List.append_nil] at hown
      go_wp2
      go_ret
      exact ⟨rfl, hown, hg⟩

/-- markByteS of a row: it holds the marks behind it; nothing else turns. -/
theorem markB (b : Nat) (va : Value) (xs : List Int) (k : Int) (w : World) (hm : xs.length ≤ 1099511627776) (hk0 : 0 ≤ k) (hk1 : k ≤ 1099511627776) (h1 : ownsB w b va xs) :
    Calls Try.prog 8 #[va, .int .i64 k] w fun e w' => e = .returned (.int .i64 (k + xs.length)) ∧ ownsB w' b va (marks k xs.length) ∧ w.grownBy w' va.ownBlock := by
  unfold ownsB
  rw [marks_length]
  rcases h1.2 with ⟨rfl, h0⟩ | ⟨g1, c1, _, rfl, -⟩
  · rw [h0]
    refine (markB_nil _ _ k w).mono ?_
    rintro e w' ⟨rfl, rfl⟩
    exact ⟨by simp, World.ownsRow_nil _ _ _ _, World.grownBy.refl _ _⟩
  · exact markB_row b g1 _ c1 xs k w rfl hm hk0 hk1 h1

set_option maxHeartbeats 800000 in
theorem heldB_nil (a : Option Addr) (c : Nat) (k : Int) (w : World) :
    Calls Try.prog 9 #[.slice a 0 c, .int .i64 k] w fun e w' => e = .returned (.int .i64 k) ∧ w' = w := by
  go_enter Try.func9, Try.ntmps9
  go_wp2
  refine wp_loop_rounds 1 ?_
  rw [rounds_succ]
  go_wp2
  go_ret
  exact ⟨rfl, rfl⟩

set_option maxHeartbeats 1600000 in
theorem heldB_row (g n c : Nat) (k : Int) (w : World) (hm : n ≤ 1099511627776) (hk0 : 0 ≤ k) (hk1 : k ≤ 1099511627776)
    (h : ∀ j : Nat, j < n → w.cell? ⟨g, j, none⟩ = some (.int .u8 ((k + j) % 256))) :
    Calls Try.prog 9 #[.slice (some ⟨g, 0, none⟩) n c, .int .i64 k] w fun e w' => e = .returned (.int .i64 (k + n)) ∧ w' = w := by
  go_enter Try.func9, Try.ntmps9
  go_wp2
  go_loop [1, 5] (fun t i => ∃ j : Nat, j ≤ n ∧ i = .int .i64 j ∧ t = .int .i64 (k + j)) (fun _ i => n - (intOf i).toNat)
  case atStart => exact ⟨0, Nat.zero_le _, rfl, by go_num⟩
  case round =>
    obtain ⟨j, hj, rfl, rfl⟩ := hrel
    by_cases hlt : j < n
    · have hc := h j hlt
      go_wp2
      go_round
      case rel => exact ⟨j + 1, by omega, by go_num, by go_num⟩
      case measure => simp [intOf]; omega
    · have hjn : j = n := by omega
      subst hjn
      go_wp2
      go_ret
      exact ⟨rfl, rfl⟩

/-- heldByteS of a row that holds the marks: the number behind the last one. -/
theorem heldB (b : Nat) (va : Value) (k : Int) (n : Nat) (w : World) (hm : n ≤ 1099511627776) (hk0 : 0 ≤ k) (hk1 : k ≤ 1099511627776) (h1 : ownsB w b va (marks k n)) :
    Calls Try.prog 9 #[va, .int .i64 k] w fun e w' => e = .returned (.int .i64 (k + n)) ∧ w' = w := by
  unfold ownsB at h1
  rw [marks_length] at h1
  rcases h1.2 with ⟨rfl, h0⟩ | ⟨g1, c1, _, rfl, -⟩
  · subst h0
    refine (heldB_nil _ _ k w).mono ?_
    rintro e w' ⟨rfl, rfl⟩
    exact ⟨by simp, rfl⟩
  · refine heldB_row g1 n c1 k w hm hk0 hk1 fun j hj => ?_
    rw [h1.cellAt j (by omega), List.getElem?_map, marks_get k n j hj]; rfl

end Go.Proofs.Ytnanabbkogakmal
