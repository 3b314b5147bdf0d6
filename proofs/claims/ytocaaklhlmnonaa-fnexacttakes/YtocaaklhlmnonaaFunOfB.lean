/- FunOf of the specification and of the program, each by its contract, and the law's walk. -/
import Derived.Test.YtocaaklhlmnonaaMapN
namespace Go.Proofs.Ytocaaklhlmnonaa
open Go.RowKit
set_option linter.unusedSimpArgs false

set_option maxHeartbeats 3200000 in
theorem iFunOf (s : ByteArray) (w : World) (hs : s.size ≤ maxLen) : Calls Try.prog 38 #[.string s] w fun e w' => e = .returned (.int .i64 (placeR s nameList 0)) ∧ Below w.heap.size w w' := by
  have hv : Hid ((numOf s = none ∧ placeR s nameList 0 = -1) ∨ numOf s = some (placeR s nameList 0)) := by
    unfold numOf
    by_cases h : placeR s nameList 0 < 0
    · refine .inl ⟨if_pos h, ?_⟩
      have : ∀ (xs : List ByteArray) (k : Nat), -1 ≤ placeR s xs k := by
        intro xs
        induction xs with
        | nil => intro k; exact Int.le_refl _
        | cons y r ih => intro k; show -1 ≤ (if y = s then _ else _); split; omega; exact ih _
      have := this nameList 0
      omega
    · exact .inr (if_neg h)
  generalize placeR s nameList 0 = p at *
  rcases (show _ ∨ _ from hv) with ⟨h1, h2⟩ | h1
  · have e1 : (numOf s).getD 0 = 0 := by rw [h1]; rfl
    have e2 : (numOf s).isSome = false := by rw [h1]; rfl
    have h2 : Hid (p = -1) := h2
    clear h1 hv
    go_enter Try.func38, Try.ntmps38
    go_wp2_with fail
    refine (iNumbers w).mono ?_
    rintro e w1 ⟨rfl, hM, hB⟩
    go_wp2_with (first | (refine wpM_look _ rfl _ _ rfl _ _ _ _ rfl hM rfl hs ?_) | go_in)
    go_ret
    exact ⟨by rw [show p = -1 from h2]; rfl, hB⟩
  · have e1 : (numOf s).getD 0 = p := by rw [h1]; rfl
    have e2 : (numOf s).isSome = true := by rw [h1]; rfl
    clear h1 hv
    go_enter Try.func38, Try.ntmps38
    go_wp2_with fail
    refine (iNumbers w).mono ?_
    rintro e w1 ⟨rfl, hM, hB⟩
    go_wp2_with (first | (refine wpM_look _ rfl _ _ rfl _ _ _ _ rfl hM rfl hs ?_) | go_in)
    go_ret
    exact ⟨rfl, hB⟩

theorem sNames (w : World) : Calls Try.prog 68 #[] w fun e w' => e = .returned (.slice (some ⟨w.heap.size, 0, none⟩) 15 15) ∧ w' = w.alloc (.cells (nameList.map Value.string).toArray 9) := by
  go_enter Try.func68, Try.ntmps68
  go_wp2
  go_ret
  exact ⟨rfl, rfl⟩

set_option maxHeartbeats 3200000 in
theorem sFunOf (x : ByteArray) (w : World) : Calls Try.prog 37 #[.string x] w fun e w' => e = .returned (.int .i64 (placeR x nameList 0)) ∧ Below w.heap.size w w' := by
  have hB := below_new w (.cells (nameList.map Value.string).toArray 9)
  have hc := newRow w nameList 9
  have hn : nameList.length = 15 := rfl
  have kN := sNames w
  generalize nameList = xs at *
  go_enter Try.func37, Try.ntmps37
  go_wp2_with fail
  refine kN.mono ?_
  rintro e w1 ⟨rfl, rfl⟩
  generalize w.alloc (.cells (xs.map Value.string).toArray 9) = w1 at *
  clear kN
  go_wp2
  go_loop [4] (fun i => ∃ k : Nat, k ≤ 15 ∧ i = .int .i64 k ∧ Hid (placeR x (xs.drop k) k = placeR x xs 0)) (fun i => 15 - (intOf i).toNat)
  case atStart => exact ⟨0, Nat.zero_le _, rfl, rfl⟩
  case round =>
    obtain ⟨k, hk, rfl, hR⟩ := hrel
    by_cases hlt : k < 15
    · have hc := hc k (by omega)
      have hS := place_step x xs k (by omega)
      obtain ⟨y, hy⟩ : ∃ y, xs.getD k ⟨#[]⟩ = y := ⟨_, rfl⟩
      rw [hy] at hc hS
      by_cases he : y = x
      · subst he
        rw [if_pos rfl] at hS
        have hF : Hid ((k : Int) = placeR y xs 0) := hS.symm.trans hR
        have hb : (y.toList == y.toList) = true := by simp
        clear hS hR hy hn
        go_wp2
        go_ret
        exact ⟨by unfold Hid at hF; rw [← hF]; rfl, hB⟩
      · rw [if_neg he] at hS
        have hR' : Hid (placeR x (xs.drop (k + 1)) (k + 1) = placeR x xs 0) := hS.symm.trans hR
        have hb : (y.toList == x.toList) = false := (Lib.bytes_beq_false_iff _ _).2 he
        clear hS hR hy hn he
        go_wp2
        go_round
        case rel => exact ⟨k + 1, by omega, by go_num, hR'⟩
        case measure => simp [intOf]; omega
    · have hkn : k = 15 := by omega
      subst hkn
      have hF : Hid ((-1 : Int) = placeR x xs 0) := by have := hR; unfold Hid at this; rw [List.drop_of_length_le (by omega)] at this; exact this
      clear hR
      go_wp2
      go_ret
      exact ⟨by unfold Hid at hF; rw [← hF]; rfl, hB⟩

theorem walkFunOf (x : ByteArray) (w : World) (hx : x.size ≤ maxLen) : Calls Try.prog 10 #[.string x] w fun e w' => e = .returned (.bool true) ∧ Below w.heap.size w w' := by
  by_cases hb : x.size ≤ 1048576
  · go_enter Try.func10, Try.ntmps10
    go_wp2_with fail
    refine (sFunOf x w).mono ?_
    rintro e w1 ⟨rfl, b1⟩
    go_wp2_with fail
    refine (iFunOf x w1 hx).mono ?_
    rintro e w2 ⟨rfl, b2⟩
    have B := b1.trans (b2.mono b1.size)
    generalize placeR x nameList 0 = s
    clear b1 b2
    go_wp2
    go_ret
    exact ⟨rfl, B⟩
  · go_enter Try.func10, Try.ntmps10
    go_wp2
    go_ret
    exact ⟨rfl, Below.refl _ _⟩

end Go.Proofs.Ytocaaklhlmnonaa
