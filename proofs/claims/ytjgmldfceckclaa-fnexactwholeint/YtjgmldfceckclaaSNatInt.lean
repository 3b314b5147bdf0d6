/- The specification's NatInt, by its contract. -/
import Derived.Test.YtjgmldfceckclaaNatR
namespace Go.Proofs.Ytjgmldfceckclaa
open Go.RowKit

theorem lval_dropI (xs : List Int) (k : Nat) : lval (xs.drop k) = xs.getD k 0 + 16777216 * lval (xs.drop (k + 1)) := by
  by_cases h : k < xs.length
  · rw [List.drop_eq_getElem_cons h, lval, List.getD_eq_getElem?_getD, List.getElem?_eq_getElem h]; rfl
  · rw [List.drop_of_length_le (by omega), List.drop_of_length_le (by omega), List.getD_eq_getElem?_getD, List.getElem?_eq_none (by omega)]; rfl

theorem lval_splitI (xs : List Int) (k : Nat) : lval xs = lval (xs.take k) + 16777216 ^ k * lval (xs.drop k) := by
  by_cases h : k ≤ xs.length
  · have := lval_append (xs.take k) (xs.drop k)
    rw [List.take_append_drop, List.length_take, Nat.min_eq_left h] at this
    exact this
  · rw [List.take_of_length_le (by omega), List.drop_of_length_le (by omega)]; simp [lval]

/-- Which numbers an int holds, by their limbs. -/
theorem int_small {xs : List Int} (h : okL xs) : num xs ≤ 9223372036854775807 ↔ xs.length ≤ 3 ∧ ¬ (xs.length = 3 ∧ 32767 < xs.getD 2 0) := by
  have hn := num_val h.2.1
  match xs, h with
  | [], _ => simp [num, lval]
  | [a], h =>
    have := (inR_cons.1 h.2.1).1
    simp [lval] at hn ⊢; omega
  | [a, b], h =>
    have h1 := inR_cons.1 h.2.1
    have h2 := inR_cons.1 h1.2
    simp [lval] at hn ⊢; omega
  | [a, b, c], h =>
    have h1 := inR_cons.1 h.2.1
    have h2 := inR_cons.1 h1.2
    have h3 := inR_cons.1 h2.2
    simp [lval] at hn ⊢; omega
  | a :: b :: c :: d :: r, h =>
    have h1 := inR_cons.1 h.2.1
    have h2 := inR_cons.1 h1.2
    have h3 := inR_cons.1 h2.2
    have h4 : lval (d :: r) ≠ 0 := by
      have hz : noZ (d :: r) := fun hne => by
        have := h.2.2 (by simp)
        rwa [List.getLast_cons (by simp), List.getLast_cons (by simp), List.getLast_cons (by simp)] at this
      intro e
      have := limbs_of h3.2 hz
      rw [e] at this
      simp [limbs_zero] at this
    have h5 := lval_nonneg h3.2
    have h6 : lval (a :: b :: c :: d :: r) = a + 16777216 * (b + 16777216 * (c + 16777216 * lval (d :: r))) := rfl
    rw [h6] at hn
    simp
    omega

set_option maxHeartbeats 1600000 in
theorem sNatInt (v : Value) (xs : List Int) (w : World) (h : rowI w v xs) (hl : xs.length ≤ 1048576) :
    Calls Try.prog 48 #[v] w fun e w' => e = .returned (.tuple #[.int .i64 (intR xs).1, .bool (intR xs).2]) ∧ w' = w := by
  have ka := sNatOk v xs w h (by omega)
  obtain ⟨a, cap, rfl, h2, h3, h4, h5, h6⟩ := h
  have H6 : Hid (∀ j, j < xs.length → ∃ g off, a = some ⟨g, off, none⟩ ∧ g < w.heap.size ∧ w.cell? ⟨g, off + j, none⟩ = some (.int .i64 (xs.getD j 0))) := h6
  clear h6 h4 h5
  cases hox : okB xs
  · have HE : Hid (intR xs = (0, false)) := by show _ = _; rw [intR, if_neg (by rw [hox]; simp)]
    rw [hox] at ka
    clear hox
    go_enter Try.func48, Try.ntmps48
    go_wp2_with (go_at_call 80; refine ka.mono ?_; rintro e w ⟨rfl, rfl⟩)
    go_ret2
    exact ⟨by rw [HE.out]; rfl, rfl⟩
  · have hok := (okB_iff xs).1 hox
    rw [hox] at ka
    by_cases hs : num xs ≤ 9223372036854775807
    · have HE : Hid (intR xs = ((num xs : Int), true)) := by show _ = _; rw [intR, if_pos ⟨hox, hs⟩]
      have hsm := (int_small hok).1 hs
      have hnv := num_val hok.2.1
      have hinR := hok.2.1
      have hl3 : ¬ ((3 : Int) < (xs.length : Int)) := by omega
      have hlen3 : xs.length ≤ 3 := hsm.1
      have key : ∀ k, 0 ≤ lval (xs.drop k) ∧ lval (xs.drop k) ≤ 9223372036854775807 := fun k => by
        have h1 := lval_nonneg (inR_drop hinR k)
        have h2 := lval_nonneg (inR_take hinR k)
        have h3 := lval_splitI xs k
        have h4 := pow_pos k
        have h5 : 1 * lval (xs.drop k) ≤ 16777216 ^ k * lval (xs.drop k) := Int.mul_le_mul_of_nonneg_right (by omega) h1
        omega
      have HK : Hid (∀ k, 0 ≤ lval (xs.drop k) ∧ lval (xs.drop k) ≤ 9223372036854775807) := key
      have hsm2 := hsm.2
      have hor : ((xs.length : Int) == 3) = false ∨ (((xs.length : Int) == 3) = true ∧ ∃ g off d, a = some ⟨g, off, none⟩ ∧ w.cell? ⟨g, off + 2, none⟩ = some (.int .i64 d) ∧ (2 : Int) < (xs.length : Int) ∧ ¬ 32767 < d) := by
        by_cases he3 : xs.length = 3
        · right
          obtain ⟨g, off, e, hg, hc⟩ := H6.out 2 (by omega)
          exact ⟨by rw [he3]; rfl, g, off, _, e, hc, by omega, fun h => hsm2 ⟨he3, h⟩⟩
        · left
          rw [beq_eq_false_iff_ne]; omega
      have HNV : Hid ((num xs : Int) = lval xs) := hnv
      have HR : Hid (inR xs) := hinR
      clear hox hok hs hsm hsm2 key hnv hinR
      rcases hor with e3 | ⟨e3, g, off, d, rfl, hcd, hin3, hd⟩
      all_goals
        go_enter Try.func48, Try.ntmps48
        go_wp2_with (go_at_call 80; refine ka.mono ?_; rintro e w ⟨rfl, rfl⟩)
        go_loop [4, 5] (fun t i => ∃ k : Nat, k ≤ xs.length ∧ i = .int .i64 ((k : Int) - 1) ∧ t = .int .i64 (lval (xs.drop k))) (fun _ i => (intOf i + 1).toNat)
        case atStart => exact ⟨xs.length, Nat.le_refl _, rfl, by rw [List.drop_of_length_le (Nat.le_refl _)]; rfl⟩
        case round =>
          obtain ⟨k, hk, rfl, rfl⟩ := hrel
          by_cases hk0 : k = 0
          · subst hk0
            go_wp2
            go_ret2
            exact ⟨by rw [HE.out, HNV.out]; rfl, rfl⟩
          · obtain ⟨m, rfl⟩ : ∃ m, k = m + 1 := ⟨k - 1, by omega⟩
            have hm : ((m + 1 : Nat) : Int) - 1 = (m : Int) := by omega
            obtain ⟨g', off', e', hg', hc⟩ := H6.out m (by omega)
            have hk1 := HK.out (m + 1)
            have hk2 := HK.out m
            have hdr := lval_dropI xs m
            have hgd := inR_getD HR.out m
            obtain ⟨d', hd'⟩ : ∃ d', xs.getD m 0 = d' := ⟨_, rfl⟩
            rw [hd'] at hc hdr hgd
            obtain ⟨nx, hnx⟩ : ∃ nx, lval (xs.drop (m + 1)) = nx := ⟨_, rfl⟩
            rw [hnx] at hk1 hdr ⊢
            rw [hdr] at hk2
            have HN : Hid (lval (xs.drop m) = d' + 16777216 * nx) := hdr
            obtain ⟨k10, k11⟩ := hk1
            obtain ⟨k20, k21⟩ := hk2
            obtain ⟨gd0, gd1⟩ := hgd
            rw [hm]
            clear hd' hnx hdr hm
            first
              | (cases e')
              | (subst e')
            go_wp2
            go_round
            case rel => exact ⟨m, by omega, rfl, by rw [HN.out]; go_num⟩
            case measure => simp [intOf]
    · have HE : Hid (intR xs = (0, false)) := by show _ = _; rw [intR, if_neg (fun h => hs h.2)]
      have hsm : ¬ (xs.length ≤ 3 ∧ ¬ (xs.length = 3 ∧ 32767 < xs.getD 2 0)) := fun h => hs ((int_small hok).2 h)
      by_cases hl3 : (3 : Int) < (xs.length : Int)
      · clear hox hok hs hsm
        go_enter Try.func48, Try.ntmps48
        go_wp2_with (go_at_call 80; refine ka.mono ?_; rintro e w ⟨rfl, rfl⟩)
        go_ret2
        exact ⟨by rw [HE.out]; rfl, rfl⟩
      · have he3 : xs.length = 3 := by omega
        have hbig : 32767 < xs.getD 2 0 := by omega
        obtain ⟨g, off, rfl, hg, hc⟩ := H6.out 2 (by omega)
        obtain ⟨d, hd⟩ : ∃ d, xs.getD 2 0 = d := ⟨_, rfl⟩
        rw [hd] at hc hbig
        have e3 : ((xs.length : Int) == 3) = true := by rw [he3]; rfl
        have hin3 : (2 : Int) < (xs.length : Int) := by omega
        clear hox hok hs hsm hd he3
        go_enter Try.func48, Try.ntmps48
        go_wp2_with (go_at_call 80; refine ka.mono ?_; rintro e w ⟨rfl, rfl⟩)
        go_ret2
        exact ⟨by rw [HE.out]; rfl, rfl⟩

end Go.Proofs.Ytjgmldfceckclaa
