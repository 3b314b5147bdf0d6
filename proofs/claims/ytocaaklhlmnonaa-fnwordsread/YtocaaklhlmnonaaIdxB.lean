/- slices.Index of a row of texts, and the specification's l28Place, each by its contract; the rows of words. -/
import Derived.Test.YtocaaklhlmnonaaOwnS
import Derived.Test.YtocaaklhlmnonaaStatB
import Derived.Lib.SlicesS
namespace Go.Proofs.Ytocaaklhlmnonaa
open Go.RowKit
set_option linter.unusedSimpArgs false

/-- Where a text stands in a list first, -1 where it does not. -/
def placeR (x : ByteArray) : List ByteArray → Nat → Int
  | [], _ => -1
  | y :: r, k => if y = x then k else placeR x r (k + 1)

theorem place_step (x : ByteArray) (xs : List ByteArray) (k : Nat) (h : k < xs.length) : placeR x (xs.drop k) k = if xs.getD k ⟨#[]⟩ = x then (k : Int) else placeR x (xs.drop (k + 1)) (k + 1) := by
  rw [List.drop_eq_getElem_cons h, List.getD_eq_getElem?_getD, List.getElem?_eq_getElem h]
  rfl

set_option maxHeartbeats 1600000 in
theorem idxAt (g n c : Nat) (xs : List ByteArray) (x : ByteArray) (w : World) (hn : xs.length = n) (hm : n ≤ 1099511627776) (h : ∀ j, j < n → w.cell? ⟨g, j, none⟩ = some (.string (xs.getD j ⟨#[]⟩))) :
    Calls Try.prog 50 #[.slice (some ⟨g, 0, none⟩) n c, .string x] w fun e w' => e = .returned (.int .i64 (placeR x xs 0)) ∧ w' = w := by
  go_enter Try.func50, Try.ntmps50
  go_wp2
  go_loop [5, 8] (fun _ i => ∃ k : Nat, k ≤ n ∧ i = .int .i64 k ∧ Hid (placeR x (xs.drop k) k = placeR x xs 0)) (fun _ i => n - (intOf i).toNat)
  case atStart => exact ⟨0, Nat.zero_le _, rfl, rfl⟩
  case round =>
    obtain ⟨k, hk, rfl, hR⟩ := hrel
    by_cases hlt : k < n
    · have hc := h k hlt
      have hS := place_step x xs k (by omega)
      obtain ⟨y, hy⟩ : ∃ y, xs.getD k ⟨#[]⟩ = y := ⟨_, rfl⟩
      rw [hy] at hc hS
      by_cases he : y = x
      · subst he
        rw [if_pos rfl] at hS
        have hF : Hid ((k : Int) = placeR y xs 0) := hS.symm.trans hR
        have hb : (y.toList == y.toList) = true := by simp
        clear hS hR h hy hn
        go_wp2
        go_ret
        exact ⟨by unfold Hid at hF; rw [← hF]; rfl, rfl⟩
      · rw [if_neg he] at hS
        have hR' : Hid (placeR x (xs.drop (k + 1)) (k + 1) = placeR x xs 0) := hS.symm.trans hR
        have hb : (x.toList == y.toList) = false := (Lib.bytes_beq_false_iff _ _).2 (fun e => he e.symm)
        clear hS hR h hy hn he
        go_wp2
        go_round
        case rel => exact ⟨k + 1, by omega, by go_num, hR'⟩
        case measure => simp [intOf]; omega
    · have hkn : k = n := by omega
      subst hkn
      have hF : Hid ((-1 : Int) = placeR x xs 0) := by have := hR; unfold Hid at this; rw [List.drop_of_length_le (by omega)] at this; exact this
      clear hR
      go_wp2
      go_ret
      exact ⟨by unfold Hid at hF; rw [← hF]; rfl, rfl⟩

set_option maxHeartbeats 1600000 in
theorem placeAt (g n c : Nat) (xs : List ByteArray) (x : ByteArray) (w : World) (hn : xs.length = n) (hm : n ≤ 1099511627776) (h : ∀ j, j < n → w.cell? ⟨g, j, none⟩ = some (.string (xs.getD j ⟨#[]⟩))) :
    Calls Try.prog 48 #[.slice (some ⟨g, 0, none⟩) n c, .string x] w fun e w' => e = .returned (.int .i64 (placeR x xs 0)) ∧ w' = w := by
  go_enter Try.func48, Try.ntmps48
  go_wp2
  go_loop [5] (fun i => ∃ k : Nat, k ≤ n ∧ i = .int .i64 k ∧ Hid (placeR x (xs.drop k) k = placeR x xs 0)) (fun i => n - (intOf i).toNat)
  case atStart => exact ⟨0, Nat.zero_le _, rfl, rfl⟩
  case round =>
    obtain ⟨k, hk, rfl, hR⟩ := hrel
    by_cases hlt : k < n
    · have hc := h k hlt
      have hS := place_step x xs k (by omega)
      obtain ⟨y, hy⟩ : ∃ y, xs.getD k ⟨#[]⟩ = y := ⟨_, rfl⟩
      rw [hy] at hc hS
      by_cases he : y = x
      · subst he
        rw [if_pos rfl] at hS
        have hF : Hid ((k : Int) = placeR y xs 0) := hS.symm.trans hR
        have hb : (y.toList == y.toList) = true := by simp
        clear hS hR h hy hn
        go_wp2
        go_ret
        exact ⟨by unfold Hid at hF; rw [← hF]; rfl, rfl⟩
      · rw [if_neg he] at hS
        have hR' : Hid (placeR x (xs.drop (k + 1)) (k + 1) = placeR x xs 0) := hS.symm.trans hR
        have hb : (y.toList == x.toList) = false := (Lib.bytes_beq_false_iff _ _).2 he
        clear hS hR h hy hn he
        go_wp2
        go_round
        case rel => exact ⟨k + 1, by omega, by go_num, hR'⟩
        case measure => simp [intOf]; omega
    · have hkn : k = n := by omega
      subst hkn
      have hF : Hid ((-1 : Int) = placeR x xs 0) := by have := hR; unfold Hid at this; rw [List.drop_of_length_le (by omega)] at this; exact this
      clear hR
      go_wp2
      go_ret
      exact ⟨by unfold Hid at hF; rw [← hF]; rfl, rfl⟩

def modeList : List ByteArray := [⟨#[100, 111, 119, 110]⟩, ⟨#[117, 112]⟩, ⟨#[122, 101, 114, 111]⟩, ⟨#[101, 118, 101, 110]⟩, ⟨#[97, 119, 97, 121]⟩]
def policyList : List ByteArray := [⟨#[115, 97, 116]⟩, ⟨#[101, 114, 114, 111, 114]⟩, ⟨#[119, 114, 97, 112]⟩]

/-- A row of texts that was laid just now. -/
theorem newRow (w : World) (xs : List ByteArray) (t : TypeId) : ∀ j, j < xs.length → (w.alloc (.cells (xs.map Value.string).toArray t)).cell? ⟨w.heap.size, j, none⟩ = some (.string (xs.getD j ⟨#[]⟩)) := by
  intro j hj
  rw [cell_of_row _ w.heap.size j _ _ (0, 0) (heap_alloc_new w _)]
  simp [List.getD, List.getElem?_eq_getElem hj]

theorem iModeWords (w : World) : Calls Try.prog 51 #[] w fun e w' => e = .returned (.slice (some ⟨w.heap.size, 0, none⟩) 5 5) ∧ w' = w.alloc (.cells (modeList.map Value.string).toArray 9) := by
  go_enter Try.func51, Try.ntmps51
  go_wp2
  go_ret
  exact ⟨rfl, rfl⟩
theorem sModeWords (w : World) : Calls Try.prog 49 #[] w fun e w' => e = .returned (.slice (some ⟨w.heap.size, 0, none⟩) 5 5) ∧ w' = w.alloc (.cells (modeList.map Value.string).toArray 9) := by
  go_enter Try.func49, Try.ntmps49
  go_wp2
  go_ret
  exact ⟨rfl, rfl⟩
theorem iPolicyWords (w : World) : Calls Try.prog 53 #[] w fun e w' => e = .returned (.slice (some ⟨w.heap.size, 0, none⟩) 3 3) ∧ w' = w.alloc (.cells (policyList.map Value.string).toArray 9) := by
  go_enter Try.func53, Try.ntmps53
  go_wp2
  go_ret
  exact ⟨rfl, rfl⟩
theorem sPolicyWords (w : World) : Calls Try.prog 52 #[] w fun e w' => e = .returned (.slice (some ⟨w.heap.size, 0, none⟩) 3 3) ∧ w' = w.alloc (.cells (policyList.map Value.string).toArray 9) := by
  go_enter Try.func52, Try.ntmps52
  go_wp2
  go_ret
  exact ⟨rfl, rfl⟩

theorem iModeOf (x : ByteArray) (w : World) : Calls Try.prog 21 #[.string x] w fun e w' => e = .returned (.int .i64 (placeR x modeList 0)) ∧ Below w.heap.size w w' := by
  have hB := below_new w (.cells (modeList.map Value.string).toArray 9)
  have hc := newRow w modeList 9
  have hXidxAt := fun g W h => idxAt g 5 5 modeList x W rfl (by decide) h
  generalize placeR x modeList 0 = r at *
  go_enter Try.func21, Try.ntmps21
  go_wp2_with fail
  refine (iModeWords w).mono ?_
  rintro e w1 ⟨rfl, rfl⟩
  generalize w.alloc (.cells (modeList.map Value.string).toArray 9) = w1 at *
  go_wp2_with fail
  refine (hXidxAt w.heap.size w1 hc).mono ?_
  rintro e w2 ⟨rfl, rfl⟩
  go_wp2
  go_ret
  exact ⟨rfl, hB⟩

theorem sModeOf (x : ByteArray) (w : World) : Calls Try.prog 20 #[.string x] w fun e w' => e = .returned (.int .i64 (placeR x modeList 0)) ∧ Below w.heap.size w w' := by
  have hB := below_new w (.cells (modeList.map Value.string).toArray 9)
  have hc := newRow w modeList 9
  have hXplaceAt := fun g W h => placeAt g 5 5 modeList x W rfl (by decide) h
  generalize placeR x modeList 0 = r at *
  go_enter Try.func20, Try.ntmps20
  go_wp2_with fail
  refine (sModeWords w).mono ?_
  rintro e w1 ⟨rfl, rfl⟩
  generalize w.alloc (.cells (modeList.map Value.string).toArray 9) = w1 at *
  go_wp2_with fail
  refine (hXplaceAt w.heap.size w1 hc).mono ?_
  rintro e w2 ⟨rfl, rfl⟩
  go_wp2
  go_ret
  exact ⟨rfl, hB⟩

theorem iPolicyOf (x : ByteArray) (w : World) : Calls Try.prog 23 #[.string x] w fun e w' => e = .returned (.int .i64 (placeR x policyList 0)) ∧ Below w.heap.size w w' := by
  have hB := below_new w (.cells (policyList.map Value.string).toArray 9)
  have hc := newRow w policyList 9
  have hXidxAt := fun g W h => idxAt g 3 3 policyList x W rfl (by decide) h
  generalize placeR x policyList 0 = r at *
  go_enter Try.func23, Try.ntmps23
  go_wp2_with fail
  refine (iPolicyWords w).mono ?_
  rintro e w1 ⟨rfl, rfl⟩
  generalize w.alloc (.cells (policyList.map Value.string).toArray 9) = w1 at *
  go_wp2_with fail
  refine (hXidxAt w.heap.size w1 hc).mono ?_
  rintro e w2 ⟨rfl, rfl⟩
  go_wp2
  go_ret
  exact ⟨rfl, hB⟩

theorem sPolicyOf (x : ByteArray) (w : World) : Calls Try.prog 22 #[.string x] w fun e w' => e = .returned (.int .i64 (placeR x policyList 0)) ∧ Below w.heap.size w w' := by
  have hB := below_new w (.cells (policyList.map Value.string).toArray 9)
  have hc := newRow w policyList 9
  have hXplaceAt := fun g W h => placeAt g 3 3 policyList x W rfl (by decide) h
  generalize placeR x policyList 0 = r at *
  go_enter Try.func22, Try.ntmps22
  go_wp2_with fail
  refine (sPolicyWords w).mono ?_
  rintro e w1 ⟨rfl, rfl⟩
  generalize w.alloc (.cells (policyList.map Value.string).toArray 9) = w1 at *
  go_wp2_with fail
  refine (hXplaceAt w.heap.size w1 hc).mono ?_
  rintro e w2 ⟨rfl, rfl⟩
  go_wp2
  go_ret
  exact ⟨rfl, hB⟩

theorem walkModeOf (x : ByteArray) (w : World) : Calls Try.prog 5 #[.string x] w fun e w' => e = .returned (.bool true) ∧ Below w.heap.size w w' := by
  by_cases hb : x.size ≤ 1048576
  · go_enter Try.func5, Try.ntmps5
    go_wp2_with fail
    refine (sModeOf x w).mono ?_
    rintro e w1 ⟨rfl, b1⟩
    go_wp2_with fail
    refine (iModeOf x w1).mono ?_
    rintro e w2 ⟨rfl, b2⟩
    have B := b1.trans (b2.mono b1.size)
    generalize placeR x modeList 0 = s
    clear b1 b2
    go_wp2
    go_ret
    exact ⟨rfl, B⟩
  · go_enter Try.func5, Try.ntmps5
    go_wp2
    go_ret
    exact ⟨rfl, Below.refl _ _⟩

theorem walkPolicyOf (x : ByteArray) (w : World) : Calls Try.prog 6 #[.string x] w fun e w' => e = .returned (.bool true) ∧ Below w.heap.size w w' := by
  by_cases hb : x.size ≤ 1048576
  · go_enter Try.func6, Try.ntmps6
    go_wp2_with fail
    refine (sPolicyOf x w).mono ?_
    rintro e w1 ⟨rfl, b1⟩
    go_wp2_with fail
    refine (iPolicyOf x w1).mono ?_
    rintro e w2 ⟨rfl, b2⟩
    have B := b1.trans (b2.mono b1.size)
    generalize placeR x policyList 0 = s
    clear b1 b2
    go_wp2
    go_ret
    exact ⟨rfl, B⟩
  · go_enter Try.func6, Try.ntmps6
    go_wp2
    go_ret
    exact ⟨rfl, Below.refl _ _⟩

end Go.Proofs.Ytocaaklhlmnonaa
