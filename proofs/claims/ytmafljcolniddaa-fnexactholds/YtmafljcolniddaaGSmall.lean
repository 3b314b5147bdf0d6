/- The program's small, NatInt and NatBits, each by its contract. -/
import Derived.Test.YtmafljcolniddaaGBits
import Derived.Test.YtmafljcolniddaaGB
namespace Go.Proofs.Ytmafljcolniddaa
open Go.RowKit

theorem nbits_63 (n : Nat) : nbits n ≤ 63 ↔ n ≤ 9223372036854775807 := by
  constructor
  · intro h
    have h1 := lt_nbits n
    have h2 := Nat.pow_le_pow_right (by omega : 0 < 2) h
    have h3 : n < 2 ^ 63 := by omega
    omega
  · intro h
    exact nbits_le_pow 63 n (by omega)
theorem lval_drop_le (n s : Nat) : 0 ≤ lval ((limbs n).drop s) ∧ lval ((limbs n).drop s) ≤ n := by
  have h1 := lval_split (limbs n) s
  rw [limbs_val] at h1
  have h2 := lval_nonneg (inR_take (limbs_inR n) s)
  have h3 := lval_nonneg (inR_drop (limbs_inR n) s)
  have h4 : 1 * lval ((limbs n).drop s) ≤ 16777216 ^ s * lval ((limbs n).drop s) := Int.mul_le_mul_of_nonneg_right (by have := pow_pos s; omega) h3
  omega

set_option maxHeartbeats 1600000 in
/-- small: the number as an int, where it is one. -/
theorem gSmall (a oa n : Nat) (w : World) (ha : GA w a oa n) :
    Calls Try.prog 59 #[.pointer (some ⟨a, oa, none⟩)] w fun e w' => e = .returned (.tuple #[.int .i64 (if nbits n ≤ 63 then (n : Int) else 0), .bool (decide (nbits n ≤ 63))]) ∧ Below w.heap.size w w' := by
  have kb := gBits a oa n w ha
  obtain ⟨z1, hz1⟩ : ∃ z, (if nbits n ≤ 63 then (n : Int) else 0) = z := ⟨_, rfl⟩
  obtain ⟨z2, hz2⟩ : ∃ z, decide (nbits n ≤ 63) = z := ⟨_, rfl⟩
  rw [hz1, hz2]
  by_cases h63 : nbits n ≤ 63
  · have hn := (nbits_63 n).1 h63
    have HR : Hid (z1 = (n : Int) ∧ z2 = true) := ⟨by rw [← hz1, if_pos h63], by rw [← hz2, decide_eq_true h63]⟩
    clear hz1 hz2
    have h63' : ¬ (63 : Int) < (nbits n : Int) := by omega
    go_enter Try.func59, Try.ntmps59
    go_wp2_with fail
    refine kb.mono ?_
    rintro e w1 ⟨rfl, b1⟩
    have hA := ha.below b1 ha.lt
    have hl := hA.len
    have c98 := hA.size
    obtain ⟨L, hL⟩ : ∃ L, (limbs n).length = L := ⟨_, rfl⟩
    have HL : Hid ((limbs n).length = L) := hL
    rw [hL] at c98 hl
    clear kb ha hL
    go_wp2
    go_loop [4, 5] (fun v i => ∃ (t : Nat) (x : Int), t ≤ L ∧ i = .int .i64 ((t : Int) - 1) ∧ v = .int .i64 x ∧ Hid (x = lval ((limbs n).drop t)) ∧ 0 ≤ x ∧ x ≤ n) (fun _ i => (intOf i + 1).toNat)
    case atStart => exact ⟨L, 0, Nat.le_refl _, by go_num, rfl, by show _ = _; rw [List.drop_of_length_le (Nat.le_of_eq HL.out)]; rfl, by omega, by omega⟩
    case round =>
      obtain ⟨t, x, ht, rfl, rfl, HX, x0, x1⟩ := hrel
      by_cases h0 : t = 0
      · subst h0
        have HN : Hid (x = (n : Int)) := by show _ = _; rw [HX.out, List.drop_zero, limbs_val]
        go_wp2
        go_ret2
        exact ⟨by rw [HR.out.1, HR.out.2, ← HN.out]; rfl, b1⟩
      · obtain ⟨s, rfl⟩ : ∃ s, t = s + 1 := ⟨t - 1, by omega⟩
        have hi : ((s + 1 : Nat) : Int) - 1 = (s : Int) := by omega
        rw [hi]
        have cw := hA.word s (by omega)
        have gx := inR_getD (limbs_inR n) s
        have hd := lval_drop (limbs n) s
        have hb := lval_drop_le n s
        obtain ⟨d, hdd⟩ : ∃ d, (limbs n).getD s 0 = d := ⟨_, rfl⟩
        rw [hdd] at cw gx hd
        rw [← HX.out] at hd
        have HD : Hid (lval ((limbs n).drop s) = d + 16777216 * x) := hd
        rw [hd] at hb
        obtain ⟨gx0, gx1⟩ := gx
        obtain ⟨hb0, hb1⟩ := hb
        have hs98 : (s : Int) < 98 := by omega
        clear hdd hd hi
        go_wp2
        go_round
        case rel => exact ⟨s, d + 16777216 * x, by omega, by go_num, by go_num, HD.out.symm, by omega, by omega⟩
        case measure => simp [intOf] <;> omega
  · have HR : Hid (z1 = 0 ∧ z2 = false) := ⟨by rw [← hz1, if_neg h63], by rw [← hz2, decide_eq_false h63]⟩
    clear hz1 hz2
    have h63' : (63 : Int) < (nbits n : Int) := by omega
    go_enter Try.func59, Try.ntmps59
    go_wp2_with fail
    refine kb.mono ?_
    rintro e w1 ⟨rfl, b1⟩
    go_wp2
    go_ret2
    exact ⟨by rw [HR.out.1, HR.out.2]; rfl, b1⟩

end Go.Proofs.Ytmafljcolniddaa
